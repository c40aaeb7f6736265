/- The document's reader of what is looked for: any. -/
import Derived.Test.YtleegplecdknlaaDoorAAll
namespace Go.Proofs.YtleegplecdknlaaDoor
open Go.RowKit

set_option maxRecDepth 100000 in
set_option maxHeartbeats 4000000 in
theorem any_any (one : St → Qy × St) (d : Int) (hO : Reads 18 (allM one) d) (hn : ∀ s, (one s).2.nu ≤ s.nu) : Reads 9 (anyM one) d := by
  intro A s w h
  have HO : Hid (Reads 18 (allM one) d) := hO
  have HN : Hid (∀ s, (allM one s).2.nu ≤ s.nu) := fun s => Nat.le_trans (nu_allM hn s) (hn s)
  have H : Hid (AskIs A s w) := h
  clear hO hn h
  obtain ⟨R, hR⟩ : ∃ R, anyM one s = R := ⟨_, rfl⟩
  have HR : Hid (anyL (allM one) (allM one s).2.nu (allM one s).1 (allM one s).2 = R) := hR
  rw [hR]
  clear hR
  obtain ⟨all, hall⟩ : ∃ g, allM one = g := ⟨_, rfl⟩
  rw [hall] at HO HN HR
  clear hall
  go_enter Tryd.func9, Tryd.ntmps9
  go_wp2_with fail
  refine (HO.out A s w H.out).mono ?_
  rintro _ w1 ⟨p1, rfl, hq1, ha1, hg1⟩
  have HE : Hid (RE A w p1 (all s).1 (all s).2 w1) := ⟨hq1, ha1, hg1⟩
  clear hq1 ha1 hg1 H
  obtain ⟨q1, hq1⟩ : ∃ q, (all s).1 = q := ⟨_, rfl⟩
  obtain ⟨s1, hs1⟩ : ∃ t, (all s).2 = t := ⟨_, rfl⟩
  rw [hq1, hs1] at HE HR
  clear hq1 hs1
  go_wp2
  go_loopw [5] (fun v wr => ∃ (p : Option Addr) (q : Qy) (s : St) (f : Nat), v = .pointer p ∧ Hid (RE A w p q s wr) ∧ Hid (anyL all f q s = R ∧ s.nu ≤ f)) (fun _ wr => nuW wr A)
  case atStart => exact ⟨p1, q1, s1, s1.nu, rfl, HE, HR.out, Nat.le_refl _⟩
  case round =>
    clear HE HR
    obtain ⟨p, q, s, f, rfl, HE, hz⟩ := hrel
    have hmu := nuW_of HE.out.2.1
    by_cases hg : s.peek = tOr
    · obtain ⟨f', rfl⟩ : ∃ f', f = f' + 1 := by
        cases f with
        | zero => exact absurd (nu_none (Nat.le_zero.1 hz.out.2)) (by rw [hg]; decide)
        | succ f => exact ⟨f, rfl⟩
      obtain ⟨s2, hs2⟩ : ∃ t, (⟨s.l.tail, s.bad⟩ : St) = t := ⟨_, rfl⟩
      have ht : s.take tOr = (true, s2) := by rw [take_yes hg, hs2]
      have hnu2 : s2.nu < s.nu := by have := nu_take_lt hg (by decide); rw [ht] at this; exact this
      have HZ2 : Hid (anyL all f' (.node 5 [] q (all s2).1) (all s2).2 = R) := by
        have h0 := hz.out.1
        rw [anyL, ht] at h0
        exact h0
      have hnf := hz.out.2
      have HT : Hid (s.peek = tOr ∧ (⟨s.l.tail, s.bad⟩ : St) = s2) := ⟨hg, hs2⟩
      clear hz hg ht hs2
      go_wp2_with fail
      refine (takeY_any A s tOr wr HE.out.2.1 HT.out.1 (by decide)).mono ?_
      rintro _ w3 ⟨rfl, ha3, hg3⟩
      rw [HT.out.2] at ha3
      have HE3 : Hid (RE A w p q s2 w3) := RE.to HE.out ha3 hg3
      clear ha3 hg3 HE
      have hlt2 : (all s2).2.nu < s.nu := by have := HN.out s2; omega
      go_wp2_with fail
      refine (HO.out A s2 w3 HE3.out.2.1).mono ?_
      rintro _ w4 ⟨p4, rfl, hq4, ha4, hg4⟩
      have HE4 : Hid (RE A w p q (all s2).2 w4) := RE.to HE3.out ha4 hg4
      have HQ4 : Hid (QIs A w4 p4 (all s2).1) := hq4
      clear hq4 ha4 hg4 HE3
      obtain ⟨q4, hq4⟩ : ∃ q, (all s2).1 = q := ⟨_, rfl⟩
      obtain ⟨s4, hs4⟩ : ∃ t, (all s2).2 = t := ⟨_, rfl⟩
      rw [hq4] at HQ4 HZ2
      rw [hs4] at HE4 HZ2 hlt2
      clear hq4 hs4
      have hA4 : A < w4.heap.size := HE4.out.2.1.2.2.2.2.1
      have HE5 : Hid (RE A w (some ⟨w4.heap.size, 0, none⟩) (.node 5 [] q q4) s4 (w4.alloc (.cells #[.int .i64 5, .slice none 0 0, .pointer p, .pointer p4] 49))) :=
        ⟨QIs.box hA4 5 _ p p4 [] q q4 (rowW_none A w4) HE4.out.1 HQ4.out, HE4.out.2.1.below ((Below.refl _ _).alloc (Nat.le_refl _) _), HE4.out.2.2.trans (grown_of_belowA ((Below.refl _ _).alloc (Nat.le_refl _) _) _)⟩
      clear HE4 HQ4
      go_wp2
      go_roundw
      case rel => exact ⟨_, _, s4, f', rfl, HE5, HZ2.out, by omega⟩
      case measure => rw [hmu, nuW_of HE5.out.2.1]; exact hlt2
    · have e : (q, s) = R := by
        rw [← hz.out.1]
        cases f with
        | zero => rfl
        | succ f => rw [anyL, take_no hg]; rfl
      subst e
      have HG : Hid (s.peek ≠ tOr) := hg
      clear hz hg
      go_wp2_with fail
      refine (takeN_any A s tOr wr HE.out.2.1 HG.out).mono ?_
      rintro _ w3 ⟨rfl, hw3⟩
      subst hw3
      go_wp2
      go_ret
      exact ⟨p, rfl, HE.out.1, HE.out.2.1, HE.out.2.2⟩
end Go.Proofs.YtleegplecdknlaaDoor
