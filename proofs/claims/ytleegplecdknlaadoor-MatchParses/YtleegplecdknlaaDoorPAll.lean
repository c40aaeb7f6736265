/- The program's all, if one does what it should. -/
import Derived.Test.YtleegplecdknlaaDoorPAny
namespace Go.Proofs.YtleegplecdknlaaDoor
open Go.RowKit

/-- whether more follows -/
theorem head_goes {l : List ByteArray} (hg : ∀ x ∈ l.head?, Good x) : (∃ x, headP l = (0, x) ∧ goes (⟨l, 0⟩ : St).peek = false) ∨ (∃ x, headP l = (2, x) ∧ goes (⟨l, 0⟩ : St).peek = false) ∨ (headP l = (5, tOr) ∧ goes (⟨l, 0⟩ : St).peek = false) ∨ (∃ k x, headP l = (k, x) ∧ k ≠ 0 ∧ k ≠ 2 ∧ (decide (k = 5) && decide (x = tOr)) = false ∧ goes (⟨l, 0⟩ : St).peek = true) := by
  cases l with
  | nil => exact .inl ⟨_, rfl, rfl⟩
  | cons y r =>
    have hp : (⟨y :: r, 0⟩ : St).peek = y := rfl
    rw [hp]
    have hy : Good y := hg y rfl
    cases hy with
    | opens => exact .inr (.inr (.inr ⟨1, _, rfl, by decide, by decide, by rfl, by rfl⟩))
    | shuts => exact .inr (.inl ⟨_, rfl, by rfl⟩)
    | star => exact .inr (.inr (.inr ⟨3, _, rfl, by decide, by decide, by rfl, by rfl⟩))
    | quoted r' _ =>
      refine .inr (.inr (.inr ⟨4, _, kind_quoted r', by decide, by decide, by rfl, ?_⟩))
      unfold goes
      rw [decide_eq_false (mk_none 34 r'), decide_eq_false (show ¬ _ = tShut from mk_ne (by decide)), decide_eq_false (show ¬ _ = tOr from fun e => by have := congrArg firstB e; rw [first_mk] at this; exact absurd this (by decide))]
      rfl
    | run c r' h1 h =>
      have hR : RunP ⟨(c :: r').toArray⟩ := ⟨c, r', rfl, h1, h⟩
      by_cases ho : (⟨(c :: r').toArray⟩ : ByteArray) = tOr
      · rw [ho]
        exact .inr (.inr (.inl ⟨rfl, by decide⟩))
      · refine .inr (.inr (.inr ⟨5, _, hR.kind, by decide, by decide, by rw [decide_eq_false ho]; rfl, ?_⟩))
        unfold goes
        rw [decide_eq_false hR.some, decide_eq_false (show ¬ _ = tShut from hR.ne 41 (by decide)), decide_eq_false ho]
        rfl

set_option maxRecDepth 100000 in
set_option maxHeartbeats 8000000 in
theorem pall_any (one : St → Qy × St) (d : Int) (hO : PReads 43 one d) (hn : ∀ s, (one s).2.nu ≤ s.nu ∧ (s.peek ≠ tNone → (one s).2.nu < s.nu)) : PReads 32 (allM one) d := by
  intro A l w h
  have HO : Hid (PReads 43 one d) := hO
  have HN : Hid (∀ s, (one s).2.nu ≤ s.nu ∧ (s.peek ≠ tNone → (one s).2.nu < s.nu)) := hn
  have H : Hid (Rd A l w) := h
  clear hO hn h
  obtain ⟨R, hR⟩ : ∃ R, allM one ⟨l, 0⟩ = R := ⟨_, rfl⟩
  have HR : Hid (allL one (one ⟨l, 0⟩).2.nu (one ⟨l, 0⟩).1 (one ⟨l, 0⟩).2 = R) := hR
  rw [hR]
  clear hR
  obtain ⟨q1, s1, hqs⟩ : ∃ q s, one ⟨l, 0⟩ = (q, s) := ⟨_, _, rfl⟩
  have HQ : Hid (one ⟨l, 0⟩ = (q1, s1)) := hqs
  rw [hqs] at HR
  clear hqs
  go_enter Tryd.func32, Tryd.ntmps32
  go_wp2_with fail
  refine (HO.out A l w H.out).mono ?_
  rintro e w1 ⟨hg1, hcase⟩
  rw [HQ.out] at hcase
  have HG1 : Hid (w.grownBy w1 (some A)) := hg1
  clear hg1 H
  rcases hcase with ⟨hb, p1, rfl, hq1, hr1⟩ | ⟨hb, rfl⟩
  · simp only at hb hq1 hr1
    obtain ⟨l1, rfl⟩ := st_zero hb
    have HE : Hid (RP A w p1 q1 l1 w1) := ⟨hq1, hr1, HG1.out⟩
    clear hb hq1 hr1 HG1 HQ
    go_wp2_with fail
    go_loopw [5] (fun v wr => ∃ (p : Option Addr) (q : Qy) (l : List ByteArray) (f : Nat), v = .pointer p ∧ Hid (RP A w p q l wr) ∧ Hid (allL one f q ⟨l, 0⟩ = R ∧ l.length ≤ f)) (fun _ wr => lenP wr A)
    case atStart => exact ⟨p1, q1, l1, l1.length, rfl, HE, HR.out, Nat.le_refl _⟩
    case round =>
      clear HE HR
      obtain ⟨p, q, l, f, rfl, HE, hz⟩ := hrel
      have hmu := lenP_of HE.out.2.1
      obtain ⟨⟨⟨c0, c1, _⟩, _⟩, hgood⟩ := HE.out.2.1
      rcases head_goes hgood with ⟨x, hx, hgo⟩ | ⟨x, hx, hgo⟩ | ⟨hx, hgo⟩ | ⟨k, x, hx, hk0, hk2, his, hgo⟩
      · rw [hx] at c0 c1
        clear hx hgood
        have e : (q, (⟨l, 0⟩ : St)) = R := by
          rw [← hz.out.1]
          cases f with
          | zero => rfl
          | succ f => rw [allL, if_neg (by rw [hgo]; decide)]
        clear hz hgo
        subst e
        go_wp2
        go_ret
        exact Out.made rfl HE.out.2.2 HE.out.1 HE.out.2.1
      · rw [hx] at c0 c1
        clear hx hgood
        have e : (q, (⟨l, 0⟩ : St)) = R := by
          rw [← hz.out.1]
          cases f with
          | zero => rfl
          | succ f => rw [allL, if_neg (by rw [hgo]; decide)]
        clear hz hgo
        subst e
        go_wp2
        go_ret
        exact Out.made rfl HE.out.2.2 HE.out.1 HE.out.2.1
      · rw [hx] at c0 c1
        clear hx hgood
        have e : (q, (⟨l, 0⟩ : St)) = R := by
          rw [← hz.out.1]
          cases f with
          | zero => rfl
          | succ f => rw [allL, if_neg (by rw [hgo]; decide)]
        clear hz hgo
        subst e
        go_wp2_with fail
        refine (isP_any 5 tOr tOr true (by decide) wr).mono ?_
        rintro _ w3 ⟨rfl, hb3⟩
        have HE3 : Hid (RP A w p q l w3) := RP.to HE.out (HE.out.2.1.below hb3) (grown_of_belowA hb3 _)
        clear hb3 c0 c1 HE
        go_wp2
        go_ret
        exact Out.made rfl HE3.out.2.2 HE3.out.1 HE3.out.2.1
      · rw [hx] at c0 c1
        have j0 : (k != 0) = true := by simpa using hk0
        have j2 : (k != 2) = true := by simpa using hk2
        have HIS : Hid ((decide (k = 5) && decide (x = tOr)) = false) := his
        have hpn : (⟨l, 0⟩ : St).peek ≠ tNone := fun e => by rw [e] at hgo; exact absurd hgo (by decide)
        obtain ⟨_, l0, hl0⟩ := peek_some (s := ⟨l, 0⟩) hpn
        simp only at hl0
        have hlen : l.length = l0.length + 1 := by rw [hl0]; rfl
        obtain ⟨f', rfl⟩ : ∃ f', f = f' + 1 := by
          cases f with
          | zero => have := hz.out.2; omega
          | succ f => exact ⟨f, rfl⟩
        have hz1 := hz.out.1
        have hnf := hz.out.2
        rw [allL, if_pos hgo] at hz1
        have HZ1 : Hid (allL one f' (.node (if ((⟨l, 0⟩ : St).take tNot).1 = true then 6 else 4) [] q (one (if ((⟨l, 0⟩ : St).take tNot).1 = true then ((⟨l, 0⟩ : St).take tNot).2 else (((⟨l, 0⟩ : St).take tNot).2.take tAnd).2)).1) (one (if ((⟨l, 0⟩ : St).take tNot).1 = true then ((⟨l, 0⟩ : St).take tNot).2 else (((⟨l, 0⟩ : St).take tNot).2.take tAnd).2)).2 = R) := hz1
        have HL0 : Hid (l.tail = l0 ∧ (⟨l, 0⟩ : St).peek ≠ tNone) := ⟨by rw [hl0]; rfl, hpn⟩
        clear hx hgood hk0 hk2 his hgo hz hz1 hl0 hpn
        go_wp2_with fail
        refine (isP_any k x tOr false HIS.out wr).mono ?_
        rintro _ w2 ⟨rfl, hb2⟩
        have HE2 : Hid (RP A w p q l w2) := RP.to HE.out (HE.out.2.1.below hb2) (grown_of_belowA hb2 _)
        clear hb2 c0 c1 HE
        by_cases hnot : (⟨l, 0⟩ : St).peek = tNot
        · obtain ⟨q4, s4, hqs⟩ : ∃ q s, one ⟨l0, 0⟩ = (q, s) := ⟨_, _, rfl⟩
          have HZ2 : Hid (allL one f' (.node 6 [] q q4) s4 = R) := by
            have h0 := HZ1.out
            rw [take_yes hnot] at h0
            simp only [if_true] at h0
            rw [HL0.out.1, hqs] at h0
            exact h0
          have hlt2 : s4.nu ≤ l0.length := by have := (HN.out ⟨l0, 0⟩).1; rw [hqs] at this; exact this
          have HT : Hid (one ⟨l0, 0⟩ = (q4, s4)) := hqs
          have HP : Hid ((⟨l, 0⟩ : St).peek = tNot) := hnot
          clear hqs hnot HZ1
          go_wp2_with fail
          refine (signY_any A l tNot w2 HE2.out.2.1 kind_not (by decide) HP.out).mono ?_
          rintro _ w3 ⟨rfl, ha3, hg3⟩
          rw [HL0.out.1] at ha3
          have HE3 : Hid (RP A w p q l0 w3) := RP.to HE2.out ha3 hg3
          clear ha3 hg3 HE2
          go_wp2_with fail
          refine (HO.out A l0 w3 HE3.out.2.1).mono ?_
          rintro e w5 ⟨hg5, hcase⟩
          rw [HT.out] at hcase
          rcases hcase with ⟨hb, p5, rfl, hq5, hr5⟩ | ⟨hb, rfl⟩
          · simp only at hb hq5 hr5
            obtain ⟨l5, rfl⟩ := st_zero hb
            have HE5 : Hid (RP A w (some ⟨w5.heap.size, 0, none⟩) (.node 6 [] q q4) l5 (w5.alloc (.cells #[.int .i64 6, .slice none 0 0, .int .i64 0, .pointer p, .pointer p5] 51))) := (RP.to HE3.out hr5 hg5).box hq5 6 rfl
            rw [nu_zero] at hlt2
            clear hb hq5 hr5 hg5 HE3 HT
            go_wp2
            go_roundw
            case rel => exact ⟨_, _, l5, f', rfl, HE5, HZ2.out, by omega⟩
            case measure => rw [hmu, lenP_of HE5.out.2.1]; omega
          · simp only at hb
            have HB : Hid (R.2.bad = s4.bad ∧ s4.bad ≠ 0 ∧ w.grownBy w5 (some A)) := ⟨by rw [← HZ2.out, allL_bad _ _ _ _ hb], hb, HE3.out.2.2.trans hg5⟩
            clear hb hg5 HE3 HT HZ2
            go_wp2
            exact ⟨rfl, Out.thrown HB.out.1 HB.out.2.1 HB.out.2.2⟩
        · by_cases hand : (⟨l, 0⟩ : St).peek = tAnd
          · obtain ⟨q4, s4, hqs⟩ : ∃ q s, one ⟨l0, 0⟩ = (q, s) := ⟨_, _, rfl⟩
            have HZ2 : Hid (allL one f' (.node 4 [] q q4) s4 = R) := by
              have h0 := HZ1.out
              rw [take_no hnot] at h0
              simp only [Bool.false_eq_true, if_false] at h0
              rw [take_yes hand] at h0
              simp only at h0
              rw [HL0.out.1, hqs] at h0
              exact h0
            have hlt2 : s4.nu ≤ l0.length := by have := (HN.out ⟨l0, 0⟩).1; rw [hqs] at this; exact this
            have HT : Hid (one ⟨l0, 0⟩ = (q4, s4)) := hqs
            have HP : Hid ((⟨l, 0⟩ : St).peek ≠ tNot ∧ (⟨l, 0⟩ : St).peek = tAnd) := ⟨hnot, hand⟩
            clear hqs hnot hand HZ1
            go_wp2_with fail
            refine (signN_any A l tNot w2 HE2.out.2.1 kind_not (by decide) HP.out.1).mono ?_
            rintro _ w3 ⟨rfl, ha3, hg3⟩
            have HE2b : Hid (RP A w p q l w3) := RP.to HE2.out ha3 hg3
            clear ha3 hg3 HE2
            go_wp2_with fail
            refine (signY_any A l tAnd w3 HE2b.out.2.1 kind_and (by decide) HP.out.2).mono ?_
            rintro _ w4 ⟨rfl, ha4, hg4⟩
            rw [HL0.out.1] at ha4
            have HE3 : Hid (RP A w p q l0 w4) := RP.to HE2b.out ha4 hg4
            clear ha4 hg4 HE2b
            go_wp2_with fail
            refine (HO.out A l0 w4 HE3.out.2.1).mono ?_
            rintro e w5 ⟨hg5, hcase⟩
            rw [HT.out] at hcase
            rcases hcase with ⟨hb, p5, rfl, hq5, hr5⟩ | ⟨hb, rfl⟩
            · simp only at hb hq5 hr5
              obtain ⟨l5, rfl⟩ := st_zero hb
              have HE5 : Hid (RP A w (some ⟨w5.heap.size, 0, none⟩) (.node 4 [] q q4) l5 (w5.alloc (.cells #[.int .i64 4, .slice none 0 0, .int .i64 0, .pointer p, .pointer p5] 51))) := (RP.to HE3.out hr5 hg5).box hq5 4 rfl
              rw [nu_zero] at hlt2
              clear hb hq5 hr5 hg5 HE3 HT
              go_wp2
              go_roundw
              case rel => exact ⟨_, _, l5, f', rfl, HE5, HZ2.out, by omega⟩
              case measure => rw [hmu, lenP_of HE5.out.2.1]; omega
            · simp only at hb
              have HB : Hid (R.2.bad = s4.bad ∧ s4.bad ≠ 0 ∧ w.grownBy w5 (some A)) := ⟨by rw [← HZ2.out, allL_bad _ _ _ _ hb], hb, HE3.out.2.2.trans hg5⟩
              clear hb hg5 HE3 HT HZ2
              go_wp2
              exact ⟨rfl, Out.thrown HB.out.1 HB.out.2.1 HB.out.2.2⟩
          · obtain ⟨q4, s4, hqs⟩ : ∃ q s, one ⟨l, 0⟩ = (q, s) := ⟨_, _, rfl⟩
            have HZ2 : Hid (allL one f' (.node 4 [] q q4) s4 = R) := by
              have h0 := HZ1.out
              rw [take_no hnot] at h0
              simp only [Bool.false_eq_true, if_false] at h0
              rw [take_no hand] at h0
              simp only at h0
              rw [hqs] at h0
              exact h0
            have hlt2 : s4.nu ≤ l0.length := by have := (HN.out ⟨l, 0⟩).2 HL0.out.2; rw [hqs, nu_zero] at this; simp only at this; omega
            have HT : Hid (one ⟨l, 0⟩ = (q4, s4)) := hqs
            have HP : Hid ((⟨l, 0⟩ : St).peek ≠ tNot ∧ (⟨l, 0⟩ : St).peek ≠ tAnd) := ⟨hnot, hand⟩
            clear hqs hnot hand HZ1
            go_wp2_with fail
            refine (signN_any A l tNot w2 HE2.out.2.1 kind_not (by decide) HP.out.1).mono ?_
            rintro _ w3 ⟨rfl, ha3, hg3⟩
            have HE2b : Hid (RP A w p q l w3) := RP.to HE2.out ha3 hg3
            clear ha3 hg3 HE2
            go_wp2_with fail
            refine (signN_any A l tAnd w3 HE2b.out.2.1 kind_and (by decide) HP.out.2).mono ?_
            rintro _ w4 ⟨rfl, ha4, hg4⟩
            have HE3 : Hid (RP A w p q l w4) := RP.to HE2b.out ha4 hg4
            clear ha4 hg4 HE2b
            go_wp2_with fail
            refine (HO.out A l w4 HE3.out.2.1).mono ?_
            rintro e w5 ⟨hg5, hcase⟩
            rw [HT.out] at hcase
            rcases hcase with ⟨hb, p5, rfl, hq5, hr5⟩ | ⟨hb, rfl⟩
            · simp only at hb hq5 hr5
              obtain ⟨l5, rfl⟩ := st_zero hb
              have HE5 : Hid (RP A w (some ⟨w5.heap.size, 0, none⟩) (.node 4 [] q q4) l5 (w5.alloc (.cells #[.int .i64 4, .slice none 0 0, .int .i64 0, .pointer p, .pointer p5] 51))) := (RP.to HE3.out hr5 hg5).box hq5 4 rfl
              rw [nu_zero] at hlt2
              clear hb hq5 hr5 hg5 HE3 HT
              go_wp2
              go_roundw
              case rel => exact ⟨_, _, l5, f', rfl, HE5, HZ2.out, by omega⟩
              case measure => rw [hmu, lenP_of HE5.out.2.1]; omega
            · simp only at hb
              have HB : Hid (R.2.bad = s4.bad ∧ s4.bad ≠ 0 ∧ w.grownBy w5 (some A)) := ⟨by rw [← HZ2.out, allL_bad _ _ _ _ hb], hb, HE3.out.2.2.trans hg5⟩
              clear hb hg5 HE3 HT HZ2
              go_wp2
              exact ⟨rfl, Out.thrown HB.out.1 HB.out.2.1 HB.out.2.2⟩
  · simp only at hb
    have HB : Hid (R.2.bad = s1.bad ∧ s1.bad ≠ 0) := ⟨by rw [← HR.out, allL_bad _ _ _ _ hb], hb⟩
    clear hb HR
    go_wp2
    exact ⟨rfl, Out.thrown HB.out.1 HB.out.2 HG1.out⟩
end Go.Proofs.YtleegplecdknlaaDoor
