/- The middle of three. -/
import Derived.Test.YtalfjdpdecngoaaPSort4
namespace Go.Proofs.Ytalfjdpdecngoaa
open Go.RowKit

/-- the row, and a count of swaps at C -/
def SP (s : Sl) (C n : Nat) (d : Array Pl) (wx : World) : Prop :=
  SS s d wx ∧ wx.cell? ⟨C, 0, none⟩ = some (.int .i64 n) ∧ wx.frozen? ⟨C, 0, none⟩ = false ∧ (C < wx.heap.size ∧ C ≠ s.blk ∧ C ≠ s.Bs)
theorem SP.step {s : Sl} {C n : Nat} {d : Array Pl} {wx wy : World} (h : SP s C n d wx) (hb : Below wx.heap.size wx wy) : SP s C n d wy := by
  obtain ⟨h1, h2, h3, h4, h5, h6⟩ := h
  have := hb.size
  have e : wy.heap[C]? = wx.heap[C]? := hb.block C h4
  exact ⟨h1.below hb, by rw [World.cell?_of_block (w := wx) (a := ⟨C, 0, none⟩) e]; exact h2, by rw [World.frozen?_of_block (w := wx) (a := ⟨C, 0, none⟩) e]; exact h3, by omega, h5, h6⟩
theorem SP.set {s : Sl} {C n : Nat} {d : Array Pl} {wx : World} (h : SP s C n d wx) (m : Nat) {x : Int} (hx : x = m) : SP s C m d (wx.setCell ⟨C, 0, none⟩ (.int .i64 x)) := by
  subst hx
  obtain ⟨⟨a1, a2, a3, ⟨a4, a5, a6, a7⟩, a8⟩, h2, h3, h4, h5, h6⟩ := h
  have hs : (wx.setCell ⟨C, 0, none⟩ (.int .i64 m)).heap.size = wx.heap.size := by simp [World.setCell]
  refine ⟨⟨holds_block a1 (Below.heap_setCell _ _ _ _ (by exact fun e => h5 e.symm)), a2, ?_, ⟨a4, by omega, by omega, a7⟩, a8⟩, World.cell?_setCell_same _ _ _ h2, by rw [World.frozen?_setCell]; exact h3, by omega, h5, h6⟩
  rw [World.cell?_setCell_other _ _ _ _ (fun e => by cases e; exact h6 rfl)]
  exact a3

theorem order2_lt {lt : Pl → Pl → Bool} {d : Array Pl} {a b n N : Nat} (ha : a < N) (hb : b < N) : (Sort.order2 lt d a b n).1 < N ∧ (Sort.order2 lt d a b n).2.1 < N ∧ (Sort.order2 lt d a b n).2.2 ≤ n + 1 := by
  unfold Sort.order2; split <;> exact ⟨by assumption, by assumption, by simp⟩

set_option maxHeartbeats 2000000 in
set_option maxRecDepth 100000 in
theorem order2_sp (s : Sl) (C n : Nat) (d : Array Pl) (w : World) (h : SP s C n d w) (a b : Nat) (ha : a < s.n) (hb : b < s.n) (hn : n < 1000) :
    Calls Try.prog 82 #[.agg #[(Value.func (.func 38) #[] #[.pointer (some ⟨s.Bs, 0, none⟩)]), (Value.func (.func s.sf) #[] s.sb)], .int .i64 a, .int .i64 b, .pointer (some ⟨C, 0, none⟩)] w fun e w' =>
      e = .returned (.tuple #[.int .i64 (Sort.order2 ltB d a b n).1, .int .i64 (Sort.order2 ltB d a b n).2.1]) ∧ SP s C (Sort.order2 ltB d a b n).2.2 d w' ∧ w.grownBy w' (some C) := by
  have HB : Hid (Below w.heap.size w (w.alloc (.cells #[(Value.func (.func 38) #[] #[.pointer (some ⟨s.Bs, 0, none⟩)]), (Value.func (.func s.sf) #[] s.sb)] 76))) := (Below.refl _ _).alloc (Nat.le_refl _) _
  have HP : Hid (SP s C n d (w.alloc (.cells #[(Value.func (.func 38) #[] #[.pointer (some ⟨s.Bs, 0, none⟩)]), (Value.func (.func s.sf) #[] s.sb)] 76))) := SP.step h HB.out
  clear h
  obtain ⟨lb, hlb⟩ : ∃ lb, ltB d[b]! d[a]! = lb := ⟨_, rfl⟩
  have hl := less_ss s d _ HP.out.1 b a hb ha
  rw [hlb] at hl
  have HL : Hid (Sort.order2 ltB d a b n = if lb = true then (b, a, n + 1) else (a, b, n)) := by show _ = _; rw [Sort.order2, hlb]
  rw [HL.out]
  clear HL hlb
  cases lb
  · go_enter Try.func82, Try.ntmps82
    go_wp2_with (go_at_call 38; refine hl.mono ?_; rintro e w1 ⟨rfl, hb1⟩; have HB1 : Hid _ := hb1; clear hb1)
    go_ret2
    exact ⟨rfl, HP.out.step HB1.out, (grown_of_belowP HB.out _).trans (grown_of_belowP HB1.out _)⟩
  · go_enter Try.func82, Try.ntmps82
    go_wp2_with (go_at_call 38; refine hl.mono ?_; rintro e w1 ⟨rfl, hb1⟩; have HB1 : Hid _ := hb1; have HP1 : Hid _ := HP.out.step hb1; clear hb1; have c1 := HP1.out.2.1; have c2 := HP1.out.2.2.1)
    go_ret2
    exact ⟨rfl, SP.set HP1.out (n + 1) (by omega), ((grown_of_belowP HB.out _).trans (grown_of_belowP HB1.out _)).trans (grownBy_set _ _ _ _)⟩

/-- what is known in a function that holds a box at B -/
def MP (s : Sl) (B C : Nat) (w : World) (n : Nat) (d : Array Pl) (wx : World) : Prop :=
  (wx.cell? ⟨B, 0, none⟩ = some (Value.func (.func 38) #[] #[.pointer (some ⟨s.Bs, 0, none⟩)]) ∧ wx.cell? ⟨B, 1, none⟩ = some (Value.func (.func s.sf) #[] s.sb)) ∧ (B < wx.heap.size ∧ B ≠ C) ∧ SP s C n d wx ∧ w.grownBy wx (some C)
theorem MP.grown {s : Sl} {B C : Nat} {w : World} {n m : Nat} {d : Array Pl} {wx wy : World} (h : MP s B C w n d wx) (hp : SP s C m d wy) (hg : wx.grownBy wy (some C)) : MP s B C w m d wy := by
  obtain ⟨⟨h1, h2⟩, ⟨h3, h4⟩, h5, h6⟩ := h
  have := hg.size
  exact ⟨⟨hg.cell h1 (by simpa using h4), hg.cell h2 (by simpa using h4)⟩, ⟨by omega, h4⟩, hp, h6.trans hg⟩
theorem MP.box {s : Sl} {C n : Nat} {d : Array Pl} {w : World} (h : SP s C n d w) : MP s w.heap.size C w n d (w.alloc (.cells #[(Value.func (.func 38) #[] #[.pointer (some ⟨s.Bs, 0, none⟩)]), (Value.func (.func s.sf) #[] s.sb)] 76)) := by
  have hb : Below w.heap.size w (w.alloc (.cells #[(Value.func (.func 38) #[] #[.pointer (some ⟨s.Bs, 0, none⟩)]), (Value.func (.func s.sf) #[] s.sb)] 76)) := (Below.refl _ _).alloc (Nat.le_refl _) _
  refine ⟨⟨by simp, by simp⟩, ⟨by simp, ?_⟩, h.step hb, grown_of_belowP hb _⟩
  have := h.2.2.2.1
  omega
theorem order2_at {s : Sl} {B C : Nat} {w : World} {n : Nat} {d : Array Pl} {wx : World} (h : MP s B C w n d wx) (a b : Nat) (ha : a < s.n) (hb : b < s.n) (hn : n < 1000) (r : Nat × Nat × Nat) (hr : Sort.order2 ltB d a b n = r) :
    Calls Try.prog 82 #[.agg #[(Value.func (.func 38) #[] #[.pointer (some ⟨s.Bs, 0, none⟩)]), (Value.func (.func s.sf) #[] s.sb)], .int .i64 a, .int .i64 b, .pointer (some ⟨C, 0, none⟩)] wx fun e w' => e = .returned (.tuple #[.int .i64 r.1, .int .i64 r.2.1]) ∧ MP s B C w r.2.2 d w' := by
  subst hr
  exact (order2_sp s C n d wx h.2.2.1 a b ha hb hn).mono fun _ _ ⟨he, h1, h2⟩ => ⟨he, h.grown h1 h2⟩

theorem median_lt {lt : Pl → Pl → Bool} {d : Array Pl} {a b c n N : Nat} (ha : a < N) (hb : b < N) (hc : c < N) : (Sort.median lt d a b c n).1 < N ∧ (Sort.median lt d a b c n).2 ≤ n + 3 := by
  obtain ⟨x1, x2, x3⟩ := order2_lt (lt := lt) (d := d) (n := n) ha hb
  obtain ⟨y1, y2, y3⟩ := order2_lt (lt := lt) (d := d) (n := (Sort.order2 lt d a b n).2.2) x2 hc
  obtain ⟨z1, z2, z3⟩ := order2_lt (lt := lt) (d := d) (n := (Sort.order2 lt d (Sort.order2 lt d a b n).2.1 c (Sort.order2 lt d a b n).2.2).2.2) x1 y1
  exact ⟨z2, by show (Sort.order2 lt d _ _ _).2.2 ≤ _; omega⟩

set_option maxHeartbeats 2000000 in
set_option maxRecDepth 100000 in
theorem median_sp (s : Sl) (C n : Nat) (d : Array Pl) (w : World) (h : SP s C n d w) (a b c : Nat) (ha : a < s.n) (hb : b < s.n) (hc : c < s.n) (hn : n < 900) :
    Calls Try.prog 72 #[.agg #[(Value.func (.func 38) #[] #[.pointer (some ⟨s.Bs, 0, none⟩)]), (Value.func (.func s.sf) #[] s.sb)], .int .i64 a, .int .i64 b, .int .i64 c, .pointer (some ⟨C, 0, none⟩)] w fun e w' =>
      e = .returned (.int .i64 (Sort.median ltB d a b c n).1) ∧ SP s C (Sort.median ltB d a b c n).2 d w' ∧ w.grownBy w' (some C) := by
  obtain ⟨⟨a1, b1, n1⟩, h1⟩ : ∃ r, Sort.order2 ltB d a b n = r := ⟨_, rfl⟩
  obtain ⟨⟨a2, b2, n2⟩, h2⟩ : ∃ r, Sort.order2 ltB d b1 c n1 = r := ⟨_, rfl⟩
  obtain ⟨⟨a3, b3, n3⟩, h3⟩ : ∃ r, Sort.order2 ltB d a1 a2 n2 = r := ⟨_, rfl⟩
  have hm : Sort.median ltB d a b c n = (b3, n3) := by simp only [Sort.median, h1, h2, h3]
  obtain ⟨x1, x2, x3⟩ := order2_lt (lt := ltB) (d := d) (n := n) ha hb
  rw [h1] at x1 x2 x3
  obtain ⟨y1, y2, y3⟩ := order2_lt (lt := ltB) (d := d) (n := n1) x2 hc
  rw [h2] at y1 y2 y3
  simp only at x1 x2 x3 y1 y2 y3
  rw [hm]
  have HP : Hid (MP s w.heap.size C w n d (w.alloc (.cells #[(Value.func (.func 38) #[] #[.pointer (some ⟨s.Bs, 0, none⟩)]), (Value.func (.func s.sf) #[] s.sb)] 76))) := MP.box h
  have H1 : Hid _ := h1
  have H2 : Hid _ := h2
  have H3 : Hid _ := h3
  clear h hm h1 h2 h3
  go_enter Try.func72, Try.ntmps72
  go_wp2_with fail
  refine (order2_at HP.out a b ha hb (by omega) _ H1.out).mono ?_
  rintro e w1 ⟨rfl, he1⟩
  have HP1 : Hid _ := he1
  obtain ⟨k1, k2⟩ := he1.1
  clear he1
  go_wp2_with fail
  refine (order2_at HP1.out b1 c x2 hc (by omega) _ H2.out).mono ?_
  rintro e w2 ⟨rfl, he2⟩
  have HP2 : Hid _ := he2
  obtain ⟨k1, k2⟩ := he2.1
  clear he2
  go_wp2_with fail
  refine (order2_at HP2.out a1 a2 x1 y1 (by omega) _ H3.out).mono ?_
  rintro e w3 ⟨rfl, he3⟩
  have HP3 : Hid _ := he3
  clear he3
  go_wp2
  go_ret
  exact ⟨rfl, HP3.out.2.2.1, HP3.out.2.2.2⟩
theorem median_at {s : Sl} {B C : Nat} {w : World} {n : Nat} {d : Array Pl} {wx : World} (h : MP s B C w n d wx) (a b c : Nat) (ha : a < s.n) (hb : b < s.n) (hc : c < s.n) (hn : n < 900) (r : Nat × Nat) (hr : Sort.median ltB d a b c n = r) {x y z : Int} (hx : x = a) (hy : y = b) (hz : z = c) :
    Calls Try.prog 72 #[.agg #[(Value.func (.func 38) #[] #[.pointer (some ⟨s.Bs, 0, none⟩)]), (Value.func (.func s.sf) #[] s.sb)], .int .i64 x, .int .i64 y, .int .i64 z, .pointer (some ⟨C, 0, none⟩)] wx fun e w' => e = .returned (.int .i64 r.1) ∧ MP s B C w r.2 d w' := by
  subst hr hx hy hz
  exact (median_sp s C n d wx h.2.2.1 a b c ha hb hc hn).mono fun _ _ ⟨he, h1, h2⟩ => ⟨he, h.grown h1 h2⟩

set_option maxHeartbeats 2000000 in
set_option maxRecDepth 100000 in
theorem adjacent_sp (s : Sl) (C n : Nat) (d : Array Pl) (w : World) (h : SP s C n d w) (a : Nat) (ha : 1 ≤ a) (hb : a + 1 < s.n) (hn : n < 900) :
    Calls Try.prog 71 #[.agg #[(Value.func (.func 38) #[] #[.pointer (some ⟨s.Bs, 0, none⟩)]), (Value.func (.func s.sf) #[] s.sb)], .int .i64 a, .pointer (some ⟨C, 0, none⟩)] w fun e w' =>
      e = .returned (.int .i64 (Sort.medianAdjacent ltB d a n).1) ∧ SP s C (Sort.medianAdjacent ltB d a n).2 d w' ∧ w.grownBy w' (some C) := by
  obtain ⟨r, hr⟩ : ∃ r, Sort.medianAdjacent ltB d a n = r := ⟨_, rfl⟩
  have hN := h.1.2.2.2.1.2.2.2
  rw [hr]
  have HP : Hid (MP s w.heap.size C w n d (w.alloc (.cells #[(Value.func (.func 38) #[] #[.pointer (some ⟨s.Bs, 0, none⟩)]), (Value.func (.func s.sf) #[] s.sb)] 76))) := MP.box h
  have HR : Hid (Sort.median ltB d (a - 1) a (a + 1) n = r) := hr
  clear h hr
  go_enter Try.func71, Try.ntmps71
  go_wp2_with fail
  refine (median_at HP.out (a - 1) a (a + 1) (by omega) (by omega) (by omega) (by omega) _ HR.out (by omega) (by omega) (by omega)).mono ?_
  rintro e w1 ⟨rfl, he1⟩
  have HP1 : Hid _ := he1
  clear he1
  go_wp2
  go_ret
  exact ⟨rfl, HP1.out.2.2.1, HP1.out.2.2.2⟩
theorem adjacent_at {s : Sl} {B C : Nat} {w : World} {n : Nat} {d : Array Pl} {wx : World} (h : MP s B C w n d wx) (a : Nat) (ha : 1 ≤ a) (hb : a + 1 < s.n) (hn : n < 900) (r : Nat × Nat) (hr : Sort.medianAdjacent ltB d a n = r) {x : Int} (hx : x = a) :
    Calls Try.prog 71 #[.agg #[(Value.func (.func 38) #[] #[.pointer (some ⟨s.Bs, 0, none⟩)]), (Value.func (.func s.sf) #[] s.sb)], .int .i64 x, .pointer (some ⟨C, 0, none⟩)] wx fun e w' => e = .returned (.int .i64 r.1) ∧ MP s B C w r.2 d w' := by
  subst hr hx
  exact (adjacent_sp s C n d wx h.2.2.1 a ha hb hn).mono fun _ _ ⟨he, h1, h2⟩ => ⟨he, h.grown h1 h2⟩
end Go.Proofs.Ytalfjdpdecngoaa
