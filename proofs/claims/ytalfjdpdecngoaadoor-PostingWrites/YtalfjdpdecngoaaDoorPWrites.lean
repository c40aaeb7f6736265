/- PostingWrites, walked. -/
import Derived.Test.YtalfjdpdecngoaaDoorPRp
import Derived.Test.YtalfjdpdecngoaaDoorPSame
import Derived.Test.YtalfjdpdecngoaaDoorPMergeM
import Derived.Test.YtalfjdpdecngoaaDoorIs
namespace Go.Proofs.YtalfjdpdecngoaaDoor
open Go.RowKit

theorem err_nil (w : World) : ErrIs .nilIface 0 (-1) w := .inl ⟨rfl, rfl, rfl⟩
theorem err_no (n : Int) (w : World) : ErrIs (.iface 31 (.int .i64 n)) n (-1) w := .inr (.inr ⟨rfl, rfl⟩)

theorem read_none (s : ByteArray) (h : readL s.data.toList = none) (w : World) (hs : s.size ≤ 900000) :
    Calls Tryd.prog 22 #[.string s] w fun e w' => e = .returned (.tuple #[.slice none 0 0, .iface 31 (.int .i64 3)]) ∧ Below w.heap.size w w' := by
  refine (read_any s w hs).mono ?_
  rintro e w' ⟨h1 | ⟨_, rfl⟩, hb⟩
  · obtain ⟨qs, v, h2, _⟩ := h1
    rw [h] at h2; cases h2
  · exact ⟨rfl, hb⟩
theorem read_some (s : ByteArray) (ps : List Pl) (h : readL s.data.toList = some ps) (w : World) (hs : s.size ≤ 900000) :
    Calls Tryd.prog 22 #[.string s] w fun e w' => ∃ a c, e = .returned (.tuple #[.slice a ps.length c, .nilIface]) ∧ RowP w' a ps.length ps ∧ Below w.heap.size w w' := by
  refine (read_any s w hs).mono ?_
  rintro e w' ⟨h1 | ⟨h1, _⟩, hb⟩
  · obtain ⟨qs, v, h2, rfl, h3, h4⟩ := h1
    rw [h] at h2
    cases h2
    obtain ⟨a, c, rfl, hr, _⟩ := rowP_of_own h4 (by omega)
    exact ⟨a, c, rfl, hr, hb⟩
  · rw [h] at h1; cases h1
theorem ref_none (s : ByteArray) (h : readL s.data.toList = none) (w : World) (hs : s.size ≤ 200) :
    Calls Tryd.prog 21 #[.string s] w fun e w' => e = .returned (.tuple #[.slice none 0 0, .int .i64 3]) ∧ Below w.heap.size w w' := by
  refine (readPlaces_any s w hs).mono ?_
  rw [refR_eq]
  rintro e w' ⟨h1 | ⟨_, rfl⟩, hb⟩
  · obtain ⟨qs, v, h2, _⟩ := h1
    rw [h] at h2; cases h2
  · exact ⟨rfl, hb⟩
theorem ref_some (s : ByteArray) (ps : List Pl) (h : readL s.data.toList = some ps) (w : World) (hs : s.size ≤ 200) :
    Calls Tryd.prog 21 #[.string s] w fun e w' => ∃ a c, e = .returned (.tuple #[.slice a ps.length c, .int .i64 0]) ∧ RowP w' a ps.length ps ∧ Below w.heap.size w w' := by
  refine (readPlaces_any s w hs).mono ?_
  rw [refR_eq]
  rintro e w' ⟨h1 | ⟨h1, _⟩, hb⟩
  · obtain ⟨qs, v, h2, rfl, h3, h4⟩ := h1
    rw [h] at h2
    cases h2
    obtain ⟨a, c, rfl, hr, _⟩ := rowP_of_own h4 (by omega)
    exact ⟨a, c, rfl, hr, hb⟩
  · rw [h] at h1; cases h1

/-- the first half: what is written, and which lists may be -/
theorem same_nil (w : World) : Calls Tryd.prog 23 #[.slice none 0 0, .slice none 0 0] w fun e w' => e = .returned (.bool true) ∧ Below w.heap.size w w' :=
  same_law none none 0 0 0 0 [] w ⟨rfl, by simp, .inl rfl⟩ ⟨rfl, by simp, .inl rfl⟩

set_option maxRecDepth 100000 in
set_option maxHeartbeats 8000000 in
theorem writes_long (a1 : Option Addr) (n1 c1 : Nat) (s : ByteArray) (w : World) (h1 : n1 ≤ maxLen) (h2 : s.size ≤ maxLen) (h : 60 < n1 ∨ 200 < s.size) :
    Calls Tryd.prog 5 #[.slice a1 n1 c1, .string s] w fun e w' => e = .returned (.bool true) ∧ Below w.heap.size w w' := by
  unfold maxLen at h1 h2
  by_cases h3 : 60 < n1
  · have d1 : decide ((60 : Int) < (n1 : Int)) = true := by simp; omega
    go_enter Tryd.func5, Tryd.ntmps5
    go_wp2
    go_ret
    exact ⟨by simp, Below.refl _ _⟩
  · have d1 : decide ((60 : Int) < (n1 : Int)) = false := by simp; omega
    have d2 : decide ((200 : Int) < (s.size : Int)) = true := by simp; omega
    go_enter Tryd.func5, Tryd.ntmps5
    go_wp2
    go_ret
    exact ⟨by simp, Below.refl _ _⟩

/-- what is known of a world in a round: two places of the list -/
def LE (b o1 o2 : Nat) (p q : Pl) (w wx : World) : Prop :=
  (wx.cell? ⟨b, o1, none⟩ = some (.int .i64 p.r) ∧ wx.cell? ⟨b, o1 + 1, none⟩ = some (.int .i64 p.a) ∧ wx.cell? ⟨b, o2, none⟩ = some (.int .i64 q.r) ∧ wx.cell? ⟨b, o2 + 1, none⟩ = some (.int .i64 q.a)) ∧ b < w.heap.size ∧ Below w.heap.size w wx
theorem LE.step {b o1 o2 : Nat} {p q : Pl} {w wx wy : World} (h : LE b o1 o2 p q w wx) (hb : Below wx.heap.size wx wy) : LE b o1 o2 p q w wy := by
  obtain ⟨⟨h1, h2, h3, h4⟩, h5, h6⟩ := h
  have s := h6.size
  refine ⟨⟨?_, ?_, ?_, ?_⟩, h5, h6.trans (hb.mono s)⟩
  · rw [hb.cell (p := ⟨b, _, none⟩) (by show b < _; omega)]; exact h1
  · rw [hb.cell (p := ⟨b, _, none⟩) (by show b < _; omega)]; exact h2
  · rw [hb.cell (p := ⟨b, _, none⟩) (by show b < _; omega)]; exact h3
  · rw [hb.cell (p := ⟨b, _, none⟩) (by show b < _; omega)]; exact h4
theorem LE.drew {b o1 o2 : Nat} {p q : Pl} {w wx : World} (h : LE b o1 o2 p q w wx) : LE b o1 o2 p q w wx.drew := h.step (Below.refl _ _).drew

theorem cmpP_cases2 (p q : Pl) : (cmpP p q = -1) ∨ (cmpP p q = 0 ∧ p = q) ∨ (cmpP p q = 1 ∧ p ≠ q) := by
  rcases cmpP_cases p q with ⟨e, _⟩ | ⟨e, l⟩ | ⟨e, l⟩
  · exact .inl e
  · exact .inr (.inl ⟨e, l⟩)
  · refine .inr (.inr ⟨e, fun h => ?_⟩)
    subst h
    unfold LtP at l
    omega

/-- both ways of writing, in one breath -/
theorem both_write (xs : List Pl) (hl : xs.length ≤ 60) : ∃ (T : ByteArray) (n : Int) (EV : Value), (∀ (a : Option Addr) (c : Nat) (w : World), RowP w a xs.length xs → Calls Tryd.prog 16 #[.slice a xs.length c] w fun e w' => e = .returned (.tuple #[.string T, .int .i64 n]) ∧ Below w.heap.size w w') ∧
    (∀ (a : Option Addr) (c : Nat) (w : World), RowP w a xs.length xs → Calls Tryd.prog 17 #[.slice a xs.length c] w fun e w' => e = .returned (.tuple #[.string T, EV]) ∧ Below w.heap.size w w') ∧ (∀ w, ErrIs EV n (-1) w) := by
  cases h : rightL xs with
  | false => exact ⟨⟨#[]⟩, 1, _, fun a c w hr => wp_no a _ c xs w hr h, fun a c w hr => write_no a _ c xs w hr h, fun w => err_no 1 w⟩
  | true => exact ⟨⟨(encL xs).toArray⟩, 0, _, fun a c w hr => wp_yes a _ c xs w hr h (by omega), fun a c w hr => write_yes a _ c xs w hr h (by omega), fun w => err_nil w⟩
/-- and both ways of reading -/
theorem both_read (s : ByteArray) (hs : s.size ≤ 200) : ∃ (ps : List Pl) (n : Int) (EV : Value), (∀ w : World, Calls Tryd.prog 21 #[.string s] w fun e w' => ∃ a c, e = .returned (.tuple #[.slice a ps.length c, .int .i64 n]) ∧ RowP w' a ps.length ps ∧ Below w.heap.size w w') ∧
    (∀ w : World, Calls Tryd.prog 22 #[.string s] w fun e w' => ∃ a c, e = .returned (.tuple #[.slice a ps.length c, EV]) ∧ RowP w' a ps.length ps ∧ Below w.heap.size w w') ∧ (∀ w, ErrIs EV n (-1) w) := by
  cases h : readL s.data.toList with
  | none =>
    refine ⟨[], 3, _, fun w => (ref_none s h w hs).mono ?_, fun w => (read_none s h w (by omega)).mono ?_, fun w => err_no 3 w⟩
    · rintro e w' ⟨rfl, hb⟩; exact ⟨none, 0, rfl, ⟨rfl, by simp, .inl rfl⟩, hb⟩
    · rintro e w' ⟨rfl, hb⟩; exact ⟨none, 0, rfl, ⟨rfl, by simp, .inl rfl⟩, hb⟩
  | some ps => exact ⟨ps, 0, _, fun w => ref_some s ps h w hs, fun w => read_some s ps h w (by omega), fun w => err_nil w⟩

set_option maxRecDepth 100000 in
set_option maxHeartbeats 8000000 in
theorem writes_short (a1 : Option Addr) (c1 : Nat) (xs : List Pl) (s : ByteArray) (w : World) (hr : RowP w a1 xs.length xs) (hl : xs.length ≤ 60) (hs : s.size ≤ 200) (hg : HG w) :
    Calls Tryd.prog 5 #[.slice a1 xs.length c1, .string s] w fun e w' => e = .returned (.bool true) ∧ Below w.heap.size w w' := by
  have HG0 : Hid (HG w) := hg
  have HR0 : Hid (RowP w a1 xs.length xs) := hr
  clear hg hr
  have st := stoodPl
  have gd := guardPl
  have d1 : decide ((60 : Int) < (xs.length : Int)) = false := by simp; omega
  have d2 : decide ((200 : Int) < (s.size : Int)) = false := by simp; omega
  go_enter Tryd.func5, Tryd.ntmps5
  obtain ⟨T, n1, E1, hW1, hW2, hW3⟩ := both_write xs hl
  obtain ⟨ps, n2, E2, hR1, hR2, hR3⟩ := both_read s hs
  have W1 : Hid _ := hW1
  have W2 : Hid _ := hW2
  have W3 : Hid _ := hW3
  have R1 : Hid _ := hR1
  have R2 : Hid _ := hR2
  have R3 : Hid _ := hR3
  clear hW1 hW2 hW3 hR1 hR2 hR3
  have h1g := HG0.out.lt
  obtain ⟨rb, hrb⟩ : ∃ b, rightL xs = b := ⟨_, rfl⟩
  have HRB : Hid (rightL xs = rb) := hrb
  clear hrb
  go_wp2_with fail
  refine (W1.out a1 c1 w HR0.out).mono ?_
  rintro _ w1 ⟨rfl, hb1⟩
  have HB1 : Hid (Below w.heap.size w w1) := hb1
  clear hb1
  go_wp2_with fail
  refine (W2.out a1 c1 w1 (RowP.below HR0.out HB1.out)).mono ?_
  rintro _ w2 ⟨rfl, hb2⟩
  have HB2 : Hid (Below w.heap.size w w2) := HB1.out.trans (hb2.mono HB1.out.size)
  clear hb2 HB1
  go_wp2_with fail
  refine (bare_any E1 n1 w2 (HG0.out.below HB2.out h1g) (W3.out w2)).mono ?_
  rintro _ w3 ⟨rfl, hb3⟩
  have HB3 : Hid (Below w.heap.size w w3) := HB2.out.trans (hb3.mono HB2.out.size)
  clear hb3 HB2
  go_wp2_with fail
  refine (right_as rb a1 _ c1 xs HRB.out w3 (RowP.below HR0.out HB3.out)).mono ?_
  rintro _ w4 ⟨rfl, hb4⟩
  have HB4 : Hid (Below w.heap.size w w4) := HB3.out.trans (hb4.mono HB3.out.size)
  clear hb4 HB3
  go_wp2_with fail
  refine (places_as rb a1 _ c1 xs HRB.out w4 (RowP.below HR0.out HB4.out)).mono ?_
  rintro _ w5 ⟨rfl, hb5⟩
  have HB5 : Hid (Below w.heap.size w w5) := HB4.out.trans (hb5.mono HB4.out.size)
  clear hb5 HB4
  have hbn : (rb != rb) = false := by simp
  go_wp2_with fail
  refine (R1.out w5).mono ?_
  rintro _ w6 ⟨a6, c6, rfl, hr6, hb6⟩
  have HB6 : Hid (Below w.heap.size w w6) := HB5.out.trans (hb6.mono HB5.out.size)
  have HR6 : Hid (RowP w6 a6 ps.length ps) := hr6
  clear hb6 HB5 hr6
  go_wp2_with fail
  refine (R2.out w6).mono ?_
  rintro _ w7 ⟨a7, c7, rfl, hr7, hb7⟩
  have HB7 : Hid (Below w.heap.size w w7) := HB6.out.trans (hb7.mono HB6.out.size)
  have HR7 : Hid (RowP w7 a7 ps.length ps) := hr7
  have HR6' : Hid (RowP w7 a6 ps.length ps) := RowP.below HR6.out hb7
  clear hb7 HB6 hr7 HR6
  go_wp2_with fail
  refine (bare_any E2 n2 w7 (HG0.out.below HB7.out h1g) (R3.out w7)).mono ?_
  rintro _ w8 ⟨rfl, hb8⟩
  have HB8 : Hid (Below w.heap.size w w8) := HB7.out.trans (hb8.mono HB7.out.size)
  have HR8 : Hid (RowP w8 a7 ps.length ps) := RowP.below HR7.out hb8
  have HS8 : Hid (RowP w8 a6 ps.length ps) := RowP.below HR6'.out hb8
  clear hb8 HB7 HR7 HR6'
  go_wp2_with fail
  refine (same_law a7 a6 _ _ c7 c6 ps w8 HR8.out HS8.out).mono ?_
  rintro _ w9 ⟨rfl, hb9⟩
  have HB9 : Hid (Below w.heap.size w w9) := HB8.out.trans (hb9.mono HB8.out.size)
  clear hb9 HB8 HR8 HS8 W1 W2 W3 R1 R2 R3
  go_wp2
  go_loopw [11] (fun i wr => ∃ k : Nat, (k + 1 ≤ xs.length ∨ k = 0) ∧ i = .int .i64 ((k : Int) + 1) ∧ Hid (Below w.heap.size w wr)) (fun i _ => xs.length - (intOf i).toNat)
  case atStart => exact ⟨0, .inr rfl, by simp, HB9⟩
  case round =>
    clear HB9
    obtain ⟨k, hk, rfl, hbl⟩ := hrel
    by_cases hlt : k + 1 < xs.length
    · have hlt' : (k : Int) + 1 < (xs.length : Int) := by omega
      rcases HR0.out.2.2 with hx | ⟨b, off, rfl, hb, hrow⟩
      · simp [hx] at hlt
      obtain ⟨g1, g2⟩ := hrow k (by omega)
      obtain ⟨g3, g4⟩ := hrow (k + 1) hlt
      rw [← hbl.out.cell (p := ⟨b, _, none⟩) hb] at g1 g2 g3 g4
      obtain ⟨p, hp⟩ : ∃ p, xs[k]'(by omega) = p := ⟨_, rfl⟩
      obtain ⟨q, hq⟩ : ∃ q, xs[k + 1] = q := ⟨_, rfl⟩
      rw [hp] at g1 g2
      rw [hq] at g3 g4
      have HL : Hid (LE b (off + k * 2) (off + (k + 1) * 2) p q w wr) := ⟨⟨g1, g2, g3, g4⟩, hb, hbl.out⟩
      clear g1 g2 g3 g4 hp hq hrow
      have i2 : (k : Int) < (xs.length : Int) := by omega
      have i5 : IntKind.i64.wrap (k : Int) = (k : Int) := by rw [IntKind.wrap_i64]; omega
      have i6 : (0 : Int) ≤ (k : Int) + 1 := by omega
      have i7 : ((k : Int) + 1).toNat = k + 1 := by omega
      obtain ⟨c, hc⟩ : ∃ c, cmpP p q = c := ⟨_, rfl⟩
      have HC : Hid (cmpP p q = c) := hc
      obtain ⟨m1, em1⟩ : ∃ m, (p.r == q.r) = m := ⟨_, rfl⟩
      obtain ⟨m2, em2⟩ : ∃ m, (p.a == q.a) = m := ⟨_, rfl⟩
      have hcm : (c = -1) ∨ (c = 0 ∧ m1 = true ∧ m2 = true) ∨ (c = 1 ∧ (m1 && m2) = false) := by
        rcases cmpP_cases2 p q with h | ⟨h, e⟩ | ⟨h, e⟩
        · exact .inl (by omega)
        · subst e; exact .inr (.inl ⟨by omega, by simpa using em1.symm, by simpa using em2.symm⟩)
        · refine .inr (.inr ⟨by omega, ?_⟩)
          rw [← em1, ← em2]
          obtain ⟨pr, pa⟩ := p
          obtain ⟨qr, qa⟩ := q
          simp only [ne_eq, Pl.mk.injEq] at e
          simpa using e
      obtain ⟨BB, hBB⟩ : ∃ BB, decide (cmpP p q < 0) = BB := ⟨_, rfl⟩
      have HBB : Hid (decide (cmpP p q < 0) = BB) := hBB
      rw [hc] at hBB
      clear hc
      rcases hcm with rfl | ⟨rfl, rfl, rfl⟩ | ⟨rfl, hmm⟩
      · have e : BB = true := by rw [← hBB]; decide
        subst e
        clear hBB em1 em2
        go_wp2_with fail
        have HL : Hid _ := LE.drew HL.out
        go_region_held3 (fun w' => w'.cell? ⟨b, off + k * 2, none⟩ = some (.int .i64 p.r) ∧ w'.cell? ⟨b, off + k * 2 + 1, none⟩ = some (.int .i64 p.a) ∧ w'.cell? ⟨b, off + (k + 1) * 2, none⟩ = some (.int .i64 q.r) ∧ w'.cell? ⟨b, off + (k + 1) * 2 + 1, none⟩ = some (.int .i64 q.a)) (exact HL.out.1)
          ((go_at_call 24; refine Calls.mono (before_as _ p q HBB.out _) ?_; rintro _ wB ⟨rfl, hbB⟩; have HL : Hid _ := LE.step HL.out hbB; clear hbB))
        go_wp2_with fail
        have HL : Hid _ := LE.drew HL.out
        go_region_held3 (fun w' => w'.cell? ⟨b, off + k * 2, none⟩ = some (.int .i64 p.r) ∧ w'.cell? ⟨b, off + k * 2 + 1, none⟩ = some (.int .i64 p.a) ∧ w'.cell? ⟨b, off + (k + 1) * 2, none⟩ = some (.int .i64 q.r) ∧ w'.cell? ⟨b, off + (k + 1) * 2 + 1, none⟩ = some (.int .i64 q.a)) (exact HL.out.1)
          (first
            | (go_at_call 26; refine Calls.mono (compare_as p q _ HC.out _) ?_; rintro _ wC ⟨rfl, hbC⟩; have HL : Hid _ := LE.step HL.out hbC; clear hbC)
            | (go_at_call 25; refine Calls.mono (sign_any _ (by decide) _) ?_; rintro _ _ ⟨rfl, rfl⟩))
        go_wp2
        go_roundw
        case rel => exact ⟨k + 1, .inl (by omega), by go_num, HL.out.2.2⟩
        case measure => simp [intOf]; omega
      · have e : BB = false := by rw [← hBB]; decide
        subst e
        clear hBB
        go_wp2_with fail
        have HL : Hid _ := LE.drew HL.out
        go_region_held3 (fun w' => w'.cell? ⟨b, off + k * 2, none⟩ = some (.int .i64 p.r) ∧ w'.cell? ⟨b, off + k * 2 + 1, none⟩ = some (.int .i64 p.a) ∧ w'.cell? ⟨b, off + (k + 1) * 2, none⟩ = some (.int .i64 q.r) ∧ w'.cell? ⟨b, off + (k + 1) * 2 + 1, none⟩ = some (.int .i64 q.a)) (exact HL.out.1)
          ((go_at_call 24; refine Calls.mono (before_as _ p q HBB.out _) ?_; rintro _ wB ⟨rfl, hbB⟩; have HL : Hid _ := LE.step HL.out hbB; clear hbB))
        obtain ⟨k1, k2, k3, k4⟩ := HL.out.1
        go_wp2_with fail
        clear k1 k2 k3 k4
        have HL : Hid _ := LE.drew HL.out
        go_region_held3 (fun w' => w'.cell? ⟨b, off + k * 2, none⟩ = some (.int .i64 p.r) ∧ w'.cell? ⟨b, off + k * 2 + 1, none⟩ = some (.int .i64 p.a) ∧ w'.cell? ⟨b, off + (k + 1) * 2, none⟩ = some (.int .i64 q.r) ∧ w'.cell? ⟨b, off + (k + 1) * 2 + 1, none⟩ = some (.int .i64 q.a)) (exact HL.out.1) (fail)
        go_wp2_with fail
        have HL : Hid _ := LE.drew HL.out
        go_region_held3 (fun w' => w'.cell? ⟨b, off + k * 2, none⟩ = some (.int .i64 p.r) ∧ w'.cell? ⟨b, off + k * 2 + 1, none⟩ = some (.int .i64 p.a) ∧ w'.cell? ⟨b, off + (k + 1) * 2, none⟩ = some (.int .i64 q.r) ∧ w'.cell? ⟨b, off + (k + 1) * 2 + 1, none⟩ = some (.int .i64 q.a)) (exact HL.out.1)
          (first
            | (go_at_call 26; refine Calls.mono (compare_as p q _ HC.out _) ?_; rintro _ wC ⟨rfl, hbC⟩; have HL : Hid _ := LE.step HL.out hbC; clear hbC)
            | (go_at_call 25; refine Calls.mono (sign_any _ (by decide) _) ?_; rintro _ _ ⟨rfl, rfl⟩))
        go_wp2
        go_roundw
        case rel => exact ⟨k + 1, .inl (by omega), by go_num, HL.out.2.2⟩
        case measure => simp [intOf]; omega
      · have e : BB = false := by rw [← hBB]; decide
        subst e
        clear hBB
        cases m1
        · cases m2
          · skip
            go_wp2_with fail
            have HL : Hid _ := LE.drew HL.out
            go_region_held3 (fun w' => w'.cell? ⟨b, off + k * 2, none⟩ = some (.int .i64 p.r) ∧ w'.cell? ⟨b, off + k * 2 + 1, none⟩ = some (.int .i64 p.a) ∧ w'.cell? ⟨b, off + (k + 1) * 2, none⟩ = some (.int .i64 q.r) ∧ w'.cell? ⟨b, off + (k + 1) * 2 + 1, none⟩ = some (.int .i64 q.a)) (exact HL.out.1)
              ((go_at_call 24; refine Calls.mono (before_as _ p q HBB.out _) ?_; rintro _ wB ⟨rfl, hbB⟩; have HL : Hid _ := LE.step HL.out hbB; clear hbB))
            obtain ⟨k1, k2, k3, k4⟩ := HL.out.1
            go_wp2_with fail
            clear k1 k2 k3 k4
            have HL : Hid _ := LE.drew HL.out
            go_region_held3 (fun w' => w'.cell? ⟨b, off + k * 2, none⟩ = some (.int .i64 p.r) ∧ w'.cell? ⟨b, off + k * 2 + 1, none⟩ = some (.int .i64 p.a) ∧ w'.cell? ⟨b, off + (k + 1) * 2, none⟩ = some (.int .i64 q.r) ∧ w'.cell? ⟨b, off + (k + 1) * 2 + 1, none⟩ = some (.int .i64 q.a)) (exact HL.out.1) (fail)
            go_wp2_with fail
            have HL : Hid _ := LE.drew HL.out
            go_region_held3 (fun w' => w'.cell? ⟨b, off + k * 2, none⟩ = some (.int .i64 p.r) ∧ w'.cell? ⟨b, off + k * 2 + 1, none⟩ = some (.int .i64 p.a) ∧ w'.cell? ⟨b, off + (k + 1) * 2, none⟩ = some (.int .i64 q.r) ∧ w'.cell? ⟨b, off + (k + 1) * 2 + 1, none⟩ = some (.int .i64 q.a)) (exact HL.out.1)
              (first
                | (go_at_call 26; refine Calls.mono (compare_as p q _ HC.out _) ?_; rintro _ wC ⟨rfl, hbC⟩; have HL : Hid _ := LE.step HL.out hbC; clear hbC)
                | (go_at_call 25; refine Calls.mono (sign_any _ (by decide) _) ?_; rintro _ _ ⟨rfl, rfl⟩))
            go_wp2
            go_roundw
            case rel => exact ⟨k + 1, .inl (by omega), by go_num, HL.out.2.2⟩
            case measure => simp [intOf]; omega
          · skip
            go_wp2_with fail
            have HL : Hid _ := LE.drew HL.out
            go_region_held3 (fun w' => w'.cell? ⟨b, off + k * 2, none⟩ = some (.int .i64 p.r) ∧ w'.cell? ⟨b, off + k * 2 + 1, none⟩ = some (.int .i64 p.a) ∧ w'.cell? ⟨b, off + (k + 1) * 2, none⟩ = some (.int .i64 q.r) ∧ w'.cell? ⟨b, off + (k + 1) * 2 + 1, none⟩ = some (.int .i64 q.a)) (exact HL.out.1)
              ((go_at_call 24; refine Calls.mono (before_as _ p q HBB.out _) ?_; rintro _ wB ⟨rfl, hbB⟩; have HL : Hid _ := LE.step HL.out hbB; clear hbB))
            obtain ⟨k1, k2, k3, k4⟩ := HL.out.1
            go_wp2_with fail
            clear k1 k2 k3 k4
            have HL : Hid _ := LE.drew HL.out
            go_region_held3 (fun w' => w'.cell? ⟨b, off + k * 2, none⟩ = some (.int .i64 p.r) ∧ w'.cell? ⟨b, off + k * 2 + 1, none⟩ = some (.int .i64 p.a) ∧ w'.cell? ⟨b, off + (k + 1) * 2, none⟩ = some (.int .i64 q.r) ∧ w'.cell? ⟨b, off + (k + 1) * 2 + 1, none⟩ = some (.int .i64 q.a)) (exact HL.out.1) (fail)
            go_wp2_with fail
            have HL : Hid _ := LE.drew HL.out
            go_region_held3 (fun w' => w'.cell? ⟨b, off + k * 2, none⟩ = some (.int .i64 p.r) ∧ w'.cell? ⟨b, off + k * 2 + 1, none⟩ = some (.int .i64 p.a) ∧ w'.cell? ⟨b, off + (k + 1) * 2, none⟩ = some (.int .i64 q.r) ∧ w'.cell? ⟨b, off + (k + 1) * 2 + 1, none⟩ = some (.int .i64 q.a)) (exact HL.out.1)
              (first
                | (go_at_call 26; refine Calls.mono (compare_as p q _ HC.out _) ?_; rintro _ wC ⟨rfl, hbC⟩; have HL : Hid _ := LE.step HL.out hbC; clear hbC)
                | (go_at_call 25; refine Calls.mono (sign_any _ (by decide) _) ?_; rintro _ _ ⟨rfl, rfl⟩))
            go_wp2
            go_roundw
            case rel => exact ⟨k + 1, .inl (by omega), by go_num, HL.out.2.2⟩
            case measure => simp [intOf]; omega
        · cases m2
          · skip
            go_wp2_with fail
            have HL : Hid _ := LE.drew HL.out
            go_region_held3 (fun w' => w'.cell? ⟨b, off + k * 2, none⟩ = some (.int .i64 p.r) ∧ w'.cell? ⟨b, off + k * 2 + 1, none⟩ = some (.int .i64 p.a) ∧ w'.cell? ⟨b, off + (k + 1) * 2, none⟩ = some (.int .i64 q.r) ∧ w'.cell? ⟨b, off + (k + 1) * 2 + 1, none⟩ = some (.int .i64 q.a)) (exact HL.out.1)
              ((go_at_call 24; refine Calls.mono (before_as _ p q HBB.out _) ?_; rintro _ wB ⟨rfl, hbB⟩; have HL : Hid _ := LE.step HL.out hbB; clear hbB))
            obtain ⟨k1, k2, k3, k4⟩ := HL.out.1
            go_wp2_with fail
            clear k1 k2 k3 k4
            have HL : Hid _ := LE.drew HL.out
            go_region_held3 (fun w' => w'.cell? ⟨b, off + k * 2, none⟩ = some (.int .i64 p.r) ∧ w'.cell? ⟨b, off + k * 2 + 1, none⟩ = some (.int .i64 p.a) ∧ w'.cell? ⟨b, off + (k + 1) * 2, none⟩ = some (.int .i64 q.r) ∧ w'.cell? ⟨b, off + (k + 1) * 2 + 1, none⟩ = some (.int .i64 q.a)) (exact HL.out.1) (fail)
            go_wp2_with fail
            have HL : Hid _ := LE.drew HL.out
            go_region_held3 (fun w' => w'.cell? ⟨b, off + k * 2, none⟩ = some (.int .i64 p.r) ∧ w'.cell? ⟨b, off + k * 2 + 1, none⟩ = some (.int .i64 p.a) ∧ w'.cell? ⟨b, off + (k + 1) * 2, none⟩ = some (.int .i64 q.r) ∧ w'.cell? ⟨b, off + (k + 1) * 2 + 1, none⟩ = some (.int .i64 q.a)) (exact HL.out.1)
              (first
                | (go_at_call 26; refine Calls.mono (compare_as p q _ HC.out _) ?_; rintro _ wC ⟨rfl, hbC⟩; have HL : Hid _ := LE.step HL.out hbC; clear hbC)
                | (go_at_call 25; refine Calls.mono (sign_any _ (by decide) _) ?_; rintro _ _ ⟨rfl, rfl⟩))
            go_wp2
            go_roundw
            case rel => exact ⟨k + 1, .inl (by omega), by go_num, HL.out.2.2⟩
            case measure => simp [intOf]; omega
          · cases hmm
    · have hlt' : ¬ (k : Int) + 1 < (xs.length : Int) := by omega
      go_wp2
      go_ret
      exact ⟨rfl, hbl.out⟩
end Go.Proofs.YtalfjdpdecngoaaDoor
