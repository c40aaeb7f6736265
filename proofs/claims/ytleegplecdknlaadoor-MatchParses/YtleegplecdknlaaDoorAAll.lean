/- The document's reader of what is looked for: all and any, if one does what it should. -/
import Derived.Test.YtleegplecdknlaaDoorAQ
namespace Go.Proofs.YtleegplecdknlaaDoor
open Go.RowKit

def intV : Value → Int
  | .int _ n => n
  | _ => 0
def lenV : Value → Nat
  | .slice _ n _ => n
  | _ => 0
/-- how much may still be read, as the memory tells it -/
def nuW (w : World) (A : Nat) : Nat := match w.cell? ⟨A, 1, none⟩, w.cell? ⟨A, 0, none⟩ with
  | some b, some l => if intV b = 0 then lenV l else 0
  | _, _ => 0
theorem nuW_of {A : Nat} {s : St} {w : World} (h : AskIs A s w) : nuW w A = s.nu := by
  obtain ⟨⟨a, c, h1, _⟩, h4, _⟩ := h
  unfold nuW
  rw [h1, h4]
  rfl

/-- what a part of the reader does -/
def Reads (f : Nat) (g : St → Qy × St) (d : Int) : Prop := ∀ (A : Nat) (s : St) (w : World), AskIs A s w →
  Calls Tryd.prog f #[.pointer (some ⟨A, 0, none⟩), .int .i64 d] w fun e w' => ∃ p, e = .returned (.pointer p) ∧ QIs A w' p (g s).1 ∧ AskIs A (g s).2 w' ∧ w.grownBy w' (some A)

theorem goes_iff (p : ByteArray) : goes p = (!(p.toList == []) && !(p.toList == [41]) && !(p.toList == [79, 82])) := by
  rw [beqT, beqT, beqT]; rfl
theorem nu_none {s : St} (h : s.nu = 0) : s.peek = tNone := by
  unfold St.nu at h
  split at h
  · exact peek_nil (List.length_eq_zero_iff.1 h)
  · rename_i hb; exact peek_bad hb

/-- what is known of a world in a round -/
def RE (A : Nat) (w : World) (p : Option Addr) (q : Qy) (s : St) (wx : World) : Prop := QIs A wx p q ∧ AskIs A s wx ∧ w.grownBy wx (some A)
theorem RE.to {A : Nat} {w : World} {p : Option Addr} {q : Qy} {s s' : St} {wx wy : World} (h : RE A w p q s wx) (ha : AskIs A s' wy) (hg : wx.grownBy wy (some A)) : RE A w p q s' wy := ⟨QIs.grown hg q h.1, ha, h.2.2.trans hg⟩

set_option maxRecDepth 100000 in
set_option maxHeartbeats 4000000 in
theorem all_any (one : St → Qy × St) (d : Int) (hO : Reads 26 one d) (hn : ∀ s, (one s).2.nu ≤ s.nu ∧ (s.peek ≠ tNone → (one s).2.nu < s.nu)) : Reads 18 (allM one) d := by
  intro A s w h
  have HO : Hid (Reads 26 one d) := hO
  have HN : Hid (∀ s, (one s).2.nu ≤ s.nu ∧ (s.peek ≠ tNone → (one s).2.nu < s.nu)) := hn
  have H : Hid (AskIs A s w) := h
  clear hO hn h
  obtain ⟨R, hR⟩ : ∃ R, allM one s = R := ⟨_, rfl⟩
  have HR : Hid (allL one (one s).2.nu (one s).1 (one s).2 = R) := hR
  rw [hR]
  clear hR
  go_enter Tryd.func18, Tryd.ntmps18
  go_wp2_with fail
  refine (HO.out A s w H.out).mono ?_
  rintro _ w1 ⟨p1, rfl, hq1, ha1, hg1⟩
  have HE : Hid (RE A w p1 (one s).1 (one s).2 w1) := ⟨hq1, ha1, hg1⟩
  clear hq1 ha1 hg1 H
  obtain ⟨q1, hq1⟩ : ∃ q, (one s).1 = q := ⟨_, rfl⟩
  obtain ⟨s1, hs1⟩ : ∃ t, (one s).2 = t := ⟨_, rfl⟩
  rw [hq1, hs1] at HE HR
  clear hq1 hs1
  go_wp2_with fail
  refine (peek_any A s1 w1 HE.out.2.1).mono ?_
  rintro _ w2 ⟨rfl, hw2⟩
  subst hw2
  go_wp2
  go_loopw [5, 6] (fun v t wr => ∃ (p : Option Addr) (q : Qy) (s : St) (f : Nat), v = .pointer p ∧ t = .string s.peek ∧ Hid (RE A w p q s wr) ∧ Hid (allL one f q s = R ∧ s.nu ≤ f)) (fun _ _ wr => nuW wr A)
  case atStart => exact ⟨p1, q1, s1, s1.nu, rfl, rfl, HE, HR.out, Nat.le_refl _⟩
  case round =>
    clear HE HR
    obtain ⟨p, q, s, f, rfl, rfl, HE, hz⟩ := hrel
    have hmu := nuW_of HE.out.2.1
    by_cases hg : goes s.peek = true
    · have hne : s.peek ≠ tNone := fun e => by rw [e] at hg; exact absurd hg (by decide)
      obtain ⟨f', rfl⟩ : ∃ f', f = f' + 1 := by
        cases f with
        | zero => exact absurd (nu_none (Nat.le_zero.1 hz.out.2)) hne
        | succ f => exact ⟨f, rfl⟩
      have HZ : Hid (∀ b s2, (s.take tNot).1 = b → (if b then (s.take tNot).2 else ((s.take tNot).2.take tAnd).2) = s2 → allL one f' (.node (if b then 6 else 4) [] q (one s2).1) (one s2).2 = R) := by
        intro b s2 hb hs2
        have h0 := hz.out.1
        rw [allL, if_pos hg] at h0
        simp only at h0
        rw [hb, hs2] at h0
        exact h0
      have hnf := hz.out.2
      have hg' := hg
      rw [goes_iff] at hg'
      simp only [Bool.and_eq_true, Bool.not_eq_true'] at hg'
      obtain ⟨⟨d0, d1⟩, d2⟩ := hg'
      have hnp : s.nu ≠ 0 := fun e => hne (nu_none e)
      clear hz hg
      by_cases hN : s.peek = tNot
      · obtain ⟨s2, hs2⟩ : ∃ t, (⟨s.l.tail, s.bad⟩ : St) = t := ⟨_, rfl⟩
        have ht : s.take tNot = (true, s2) := by rw [take_yes hN, hs2]
        have hnu2 : s2.nu < s.nu := by have := nu_take_lt hN (by decide); rw [ht] at this; exact this
        have HT : Hid (s.peek = tNot ∧ s.take tNot = (true, s2) ∧ (⟨s.l.tail, s.bad⟩ : St) = s2) := ⟨hN, ht, hs2⟩
        clear hN ht hs2
        go_wp2_with fail
        refine (takeY_any A s tNot wr HE.out.2.1 HT.out.1 (by decide)).mono ?_
        rintro _ w3 ⟨rfl, ha3, hg3⟩
        rw [HT.out.2.2] at ha3
        have HE3 : Hid (RE A w p q s2 w3) := RE.to HE.out ha3 hg3
        clear ha3 hg3 HE
        have HZ2 : Hid (allL one f' (.node 6 [] q (one s2).1) (one s2).2 = R) := HZ.out true s2 (by rw [HT.out.2.1]) (by rw [HT.out.2.1]; rfl)
        have hlt2 : (one s2).2.nu < s.nu := by
          have := (HN.out s2).1; omega
        clear HZ
        go_wp2_with fail
        refine (HO.out A s2 w3 HE3.out.2.1).mono ?_
        rintro _ w4 ⟨p4, rfl, hq4, ha4, hg4⟩
        have HE4 : Hid (RE A w p q (one s2).2 w4) := RE.to HE3.out ha4 hg4
        have HQ4 : Hid (QIs A w4 p4 (one s2).1) := hq4
        clear hq4 ha4 hg4 HE3
        obtain ⟨q4, hq4⟩ : ∃ q, (one s2).1 = q := ⟨_, rfl⟩
        obtain ⟨s4, hs4⟩ : ∃ t, (one s2).2 = t := ⟨_, rfl⟩
        rw [hq4] at HQ4 HZ2
        rw [hs4] at HE4 HZ2 hlt2
        clear hq4 hs4
        have hA4 : A < w4.heap.size := HE4.out.2.1.2.2.2.2.1
        have HE5 : Hid (RE A w (some ⟨w4.heap.size, 0, none⟩) (.node 6 [] q q4) s4 (w4.alloc (.cells #[.int .i64 6, .slice none 0 0, .pointer p, .pointer p4] 49))) :=
          ⟨QIs.box hA4 6 _ p p4 [] q q4 (rowW_none A w4) HE4.out.1 HQ4.out, HE4.out.2.1.below ((Below.refl _ _).alloc (Nat.le_refl _) _), HE4.out.2.2.trans (grown_of_belowA ((Below.refl _ _).alloc (Nat.le_refl _) _) _)⟩
        clear HE4 HQ4
        go_wp2_with fail
        refine (peek_any A s4 _ HE5.out.2.1).mono ?_
        rintro _ w6 ⟨rfl, hw6⟩
        subst hw6
        go_wp2
        go_roundw
        case rel => exact ⟨_, _, s4, f', rfl, rfl, HE5, HZ2.out, by omega⟩
        case measure => rw [hmu, nuW_of HE5.out.2.1]; exact hlt2
      · have htN : s.take tNot = (false, s) := take_no hN
        by_cases hA : s.peek = tAnd
        · obtain ⟨s2, hs2⟩ : ∃ t, (⟨s.l.tail, s.bad⟩ : St) = t := ⟨_, rfl⟩
          have ht : s.take tAnd = (true, s2) := by rw [take_yes hA, hs2]
          have hnu2 : s2.nu < s.nu := by have := nu_take_lt hA (by decide); rw [ht] at this; exact this
          have HT : Hid (s.peek ≠ tNot ∧ s.peek = tAnd ∧ s.take tNot = (false, s) ∧ s.take tAnd = (true, s2) ∧ (⟨s.l.tail, s.bad⟩ : St) = s2) := ⟨hN, hA, htN, ht, hs2⟩
          clear hN hA htN ht hs2
          go_wp2_with fail
          refine (takeN_any A s tNot wr HE.out.2.1 HT.out.1).mono ?_
          rintro _ w2' ⟨rfl, hw2'⟩
          subst hw2'
          go_wp2_with fail
          refine (takeY_any A s tAnd _ HE.out.2.1 HT.out.2.1 (by decide)).mono ?_
          rintro _ w3 ⟨rfl, ha3, hg3⟩
          rw [HT.out.2.2.2.2] at ha3
          have HE3 : Hid (RE A w p q s2 w3) := RE.to HE.out ha3 hg3
          clear ha3 hg3 HE
          have HZ2 : Hid (allL one f' (.node 4 [] q (one s2).1) (one s2).2 = R) := HZ.out false s2 (by rw [HT.out.2.2.1]) (by rw [HT.out.2.2.1]; simp only; rw [HT.out.2.2.2.1]; rfl)
          have hlt2 : (one s2).2.nu < s.nu := by
            have := (HN.out s2).1; omega
          clear HZ
          go_wp2_with fail
          refine (HO.out A s2 w3 HE3.out.2.1).mono ?_
          rintro _ w4 ⟨p4, rfl, hq4, ha4, hg4⟩
          have HE4 : Hid (RE A w p q (one s2).2 w4) := RE.to HE3.out ha4 hg4
          have HQ4 : Hid (QIs A w4 p4 (one s2).1) := hq4
          clear hq4 ha4 hg4 HE3
          obtain ⟨q4, hq4⟩ : ∃ q, (one s2).1 = q := ⟨_, rfl⟩
          obtain ⟨s4, hs4⟩ : ∃ t, (one s2).2 = t := ⟨_, rfl⟩
          rw [hq4] at HQ4 HZ2
          rw [hs4] at HE4 HZ2 hlt2
          clear hq4 hs4
          have hA4 : A < w4.heap.size := HE4.out.2.1.2.2.2.2.1
          have HE5 : Hid (RE A w (some ⟨w4.heap.size, 0, none⟩) (.node 4 [] q q4) s4 (w4.alloc (.cells #[.int .i64 4, .slice none 0 0, .pointer p, .pointer p4] 49))) :=
            ⟨QIs.box hA4 4 _ p p4 [] q q4 (rowW_none A w4) HE4.out.1 HQ4.out, HE4.out.2.1.below ((Below.refl _ _).alloc (Nat.le_refl _) _), HE4.out.2.2.trans (grown_of_belowA ((Below.refl _ _).alloc (Nat.le_refl _) _) _)⟩
          clear HE4 HQ4
          go_wp2_with fail
          refine (peek_any A s4 _ HE5.out.2.1).mono ?_
          rintro _ w6 ⟨rfl, hw6⟩
          subst hw6
          go_wp2
          go_roundw
          case rel => exact ⟨_, _, s4, f', rfl, rfl, HE5, HZ2.out, by omega⟩
          case measure => rw [hmu, nuW_of HE5.out.2.1]; exact hlt2
        · have ht : s.take tAnd = (false, s) := take_no hA
          have HT : Hid (s.peek ≠ tNot ∧ s.peek ≠ tAnd ∧ s.take tNot = (false, s) ∧ s.take tAnd = (false, s)) := ⟨hN, hA, htN, ht⟩
          clear hN hA htN ht
          go_wp2_with fail
          refine (takeN_any A s tNot wr HE.out.2.1 HT.out.1).mono ?_
          rintro _ w2' ⟨rfl, hw2'⟩
          subst hw2'
          go_wp2_with fail
          refine (takeN_any A s tAnd _ HE.out.2.1 HT.out.2.1).mono ?_
          rintro _ w3 ⟨rfl, hw3⟩
          subst hw3
          have HE3 : Hid _ := HE
          clear HE
          have HZ2 : Hid (allL one f' (.node 4 [] q (one s).1) (one s).2 = R) := HZ.out false s (by rw [HT.out.2.2.1]) (by rw [HT.out.2.2.1]; simp only; rw [HT.out.2.2.2]; rfl)
          have hlt2 : (one s).2.nu < s.nu := by
            exact (HN.out s).2 hne
          clear HZ
          go_wp2_with fail
          refine (HO.out A s _ HE3.out.2.1).mono ?_
          rintro _ w4 ⟨p4, rfl, hq4, ha4, hg4⟩
          have HE4 : Hid (RE A w p q (one s).2 w4) := RE.to HE3.out ha4 hg4
          have HQ4 : Hid (QIs A w4 p4 (one s).1) := hq4
          clear hq4 ha4 hg4 HE3
          obtain ⟨q4, hq4⟩ : ∃ q, (one s).1 = q := ⟨_, rfl⟩
          obtain ⟨s4, hs4⟩ : ∃ t, (one s).2 = t := ⟨_, rfl⟩
          rw [hq4] at HQ4 HZ2
          rw [hs4] at HE4 HZ2 hlt2
          clear hq4 hs4
          have hA4 : A < w4.heap.size := HE4.out.2.1.2.2.2.2.1
          have HE5 : Hid (RE A w (some ⟨w4.heap.size, 0, none⟩) (.node 4 [] q q4) s4 (w4.alloc (.cells #[.int .i64 4, .slice none 0 0, .pointer p, .pointer p4] 49))) :=
            ⟨QIs.box hA4 4 _ p p4 [] q q4 (rowW_none A w4) HE4.out.1 HQ4.out, HE4.out.2.1.below ((Below.refl _ _).alloc (Nat.le_refl _) _), HE4.out.2.2.trans (grown_of_belowA ((Below.refl _ _).alloc (Nat.le_refl _) _) _)⟩
          clear HE4 HQ4
          go_wp2_with fail
          refine (peek_any A s4 _ HE5.out.2.1).mono ?_
          rintro _ w6 ⟨rfl, hw6⟩
          subst hw6
          go_wp2
          go_roundw
          case rel => exact ⟨_, _, s4, f', rfl, rfl, HE5, HZ2.out, by omega⟩
          case measure => rw [hmu, nuW_of HE5.out.2.1]; exact hlt2
    · have e : (q, s) = R := by
        rw [← hz.out.1]
        cases f with
        | zero => rfl
        | succ f => rw [allL, if_neg hg]
      have hg' : goes s.peek = false := by simpa using hg
      rw [goes_iff] at hg'
      subst e
      have HE' : Hid (RE A w p q s wr) := HE
      clear hz hg HE
      obtain ⟨b0, e0⟩ : ∃ b, (s.peek.toList == []) = b := ⟨_, rfl⟩
      obtain ⟨b1, e1⟩ : ∃ b, (s.peek.toList == [41]) = b := ⟨_, rfl⟩
      obtain ⟨b2, e2⟩ : ∃ b, (s.peek.toList == [79, 82]) = b := ⟨_, rfl⟩
      rw [e0, e1, e2] at hg'
      cases b0 <;> cases b1 <;> cases b2 <;> first
        | (exfalso; revert hg'; decide)
        | (clear hg'
           go_wp2
           go_ret
           exact ⟨p, rfl, HE'.out.1, HE'.out.2.1, HE'.out.2.2⟩)
end Go.Proofs.YtleegplecdknlaaDoor
