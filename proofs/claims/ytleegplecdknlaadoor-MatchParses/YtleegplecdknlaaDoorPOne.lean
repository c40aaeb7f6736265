/- The program's one: parentheses, quotes, beginnings. -/
import Derived.Test.YtleegplecdknlaaDoorPMem
namespace Go.Proofs.YtleegplecdknlaaDoor
open Go.RowKit

theorem head_shut {l : List ByteArray} (hg : ∀ x ∈ l.head?, Good x) : (∃ x r, l = tShut :: r ∧ headP l = (2, x)) ∨ (∃ k x, k ≠ 2 ∧ headP l = (k, x) ∧ (⟨l, 0⟩ : St).peek ≠ tShut) := by
  cases l with
  | nil => exact .inr ⟨0, _, by decide, rfl, by decide⟩
  | cons y r =>
    have hp : (⟨y :: r, 0⟩ : St).peek = y := rfl
    rw [hp]
    have hy : Good y := hg y rfl
    cases hy with
    | opens => exact .inr ⟨1, _, by decide, rfl, by decide⟩
    | shuts => exact .inl ⟨_, r, rfl, rfl⟩
    | star => exact .inr ⟨3, _, by decide, rfl, by decide⟩
    | quoted r' _ => exact .inr ⟨4, _, by decide, kind_quoted r', mk_ne (by decide)⟩
    | run c r' _ h => exact .inr ⟨5, _, by decide, kind_run (h c (by simp)), mk_ne (fun e => by have := h c (by simp); rw [e] at this; exact absurd this (by decide))⟩
theorem oneM_open (any : St → Qy × St) (r : List ByteArray) : oneM any false ⟨tOpen :: r, 0⟩ = ((any ⟨r, 0⟩).1, if ((any ⟨r, 0⟩).2.take tShut).1 then ((any ⟨r, 0⟩).2.take tShut).2 else ((any ⟨r, 0⟩).2.take tShut).2.fails 3) := rfl
theorem open_bad {q : Qy} {s : St} {R : Qy × St} (hb : s.bad ≠ 0) (hR : R = (q, if (s.take tShut).1 then (s.take tShut).2 else (s.take tShut).2.fails 3)) : R.2.bad = s.bad := by
  have hp : s.peek ≠ tShut := by rw [peek_bad hb]; decide
  rw [hR, take_no hp, St.fails, if_neg hb]; rfl
theorem open_yes {q : Qy} {r : List ByteArray} {R : Qy × St} (hR : R = (q, if ((⟨tShut :: r, 0⟩ : St).take tShut).1 then ((⟨tShut :: r, 0⟩ : St).take tShut).2 else ((⟨tShut :: r, 0⟩ : St).take tShut).2.fails 3)) : R = (q, ⟨r, 0⟩) := hR
theorem open_no {q : Qy} {l : List ByteArray} {R : Qy × St} (hp : (⟨l, 0⟩ : St).peek ≠ tShut) (hR : R = (q, if ((⟨l, 0⟩ : St).take tShut).1 then ((⟨l, 0⟩ : St).take tShut).2 else ((⟨l, 0⟩ : St).take tShut).2.fails 3)) : R.2.bad = 3 := by
  rw [hR, take_no hp]; rfl

theorem field0 (k : Int) (x : ByteArray) (w : World) : (Instr.field 61 (.agg #[.int .i64 k, .string x]) 0).run Tryd.prog w = .ok (.int .i64 k) w := by kernel_rfl
set_option maxRecDepth 100000 in
set_option maxHeartbeats 4000000 in
theorem pone_open (any : St → Qy × St) (A : Nat) (d : Int) (r : List ByteArray) (w : World) (h : Rd A (tOpen :: r) w) (hd0 : 0 ≤ d) (hd : ¬ 12 < d) (hO : PReads 23 any (d + 1)) : POne A d w (oneM any false ⟨tOpen :: r, 0⟩) := by
  show Calls _ _ _ _ _
  obtain ⟨R, hR⟩ : ∃ R, oneM any false ⟨tOpen :: r, 0⟩ = R := ⟨_, rfl⟩
  rw [hR]
  have H : Hid (Rd A (tOpen :: r) w) := h
  obtain ⟨q, s, hqs⟩ : ∃ q s, any ⟨r, 0⟩ = (q, s) := ⟨_, _, rfl⟩
  have HR : Hid (R = (q, if (s.take tShut).1 then (s.take tShut).2 else (s.take tShut).2.fails 3)) := by
    show _ = _
    rw [← hR, oneM_open, hqs]
  have HQ : Hid (any ⟨r, 0⟩ = (q, s)) := hqs
  have HO : Hid (PReads 23 any (d + 1)) := hO
  clear h hR hqs hO
  go_enter Tryd.func43, Tryd.ntmps43
  go_wp2_with fail
  refine (take_as A (tOpen :: r) 1 ⟨#[]⟩ r w H.out rfl rfl).mono ?_
  rintro _ w1 ⟨rfl, hr1, hg1⟩
  have HG : Hid (w.grownBy (w1.alloc (.cells #[.int .i64 1, .string ⟨#[]⟩] 61)) (some A) ∧ Rd A r (w1.alloc (.cells #[.int .i64 1, .string ⟨#[]⟩] 61))) := ⟨grown_alloc hg1 _, hr1.alloc _⟩
  clear hr1 hg1
  go_wp2_with fail
  refine (HO.out A r _ HG.out.2).mono ?_
  rintro e w2 ⟨hg2, hcase⟩
  rw [HQ.out] at hcase
  have HG2 : Hid (w.grownBy w2 (some A)) := HG.out.1.trans hg2
  clear hg2
  rcases hcase with ⟨hb, p, rfl, hq, hrd⟩ | ⟨hb, rfl⟩
  · simp only at hb hq hrd
    obtain ⟨l2, rfl⟩ : ∃ l2, s = ⟨l2, 0⟩ := ⟨s.l, by cases s; simp only at hb; rw [hb]⟩
    simp only at hrd
    have HK : Hid (MQ A w2 p q ∧ Rd A l2 w2) := ⟨hq, hrd⟩
    rcases head_shut hrd.2 with ⟨x, l3, rfl, hx⟩ | ⟨k, x, hk2, hx, hp⟩
    · have HX : Hid (headP (tShut :: l3) = (2, x)) := hx
      clear hb hq hrd hx HG
      go_wp2_with fail
      have hf := field0 2 x
      refine (take_as A (tShut :: l3) 2 x l3 w2 HK.out.2 HX.out rfl).mono ?_
      rintro _ w3 ⟨rfl, hr3, hg3⟩
      have HG3 : Hid (w.grownBy w3 (some A) ∧ Rd A l3 w3 ∧ MQ A w3 p q) := ⟨HG2.out.trans hg3, hr3, MQ.grown hg3 q HK.out.1⟩
      clear hr3 hg3
      go_wp2_with (go_at_call 20; refine (must_yes _).mono ?_; rintro _ w0 ⟨rfl, hw0⟩; obtain rfl : w3 = w0 := hw0.symm)
      go_ret
      exact Out.made (open_yes HR.out) HG3.out.1 HG3.out.2.2 HG3.out.2.1
    · have HX : Hid (headP l2 = (k, x) ∧ (⟨l2, 0⟩ : St).peek ≠ tShut) := ⟨hx, hp⟩
      have j2 : (k == 2) = false := by simpa using hk2
      clear hb hq hrd hx hp HG hk2
      go_wp2_with fail
      have hf := field0 k x
      refine (take_as A l2 k x _ w2 HK.out.2 HX.out.1 rfl).mono ?_
      rintro _ w3 ⟨rfl, hr3, hg3⟩
      have HG3 : Hid (w.grownBy w3 (some A)) := HG2.out.trans hg3
      clear hr3 hg3
      go_wp2_with (go_at_call 20; refine (must_no _).mono ?_; rintro _ w0 ⟨rfl, hw0⟩; obtain rfl : w3 = w0 := hw0.symm)
      exact ⟨rfl, Out.thrown (open_no HX.out.2 HR.out) (by decide) HG3.out⟩
  · simp only at hb
    have HB : Hid (s.bad ≠ 0) := hb
    clear hb HG
    go_wp2
    exact ⟨rfl, Out.thrown (open_bad HB.out HR.out) HB.out HG2.out⟩

theorem oneM_quote (any : St → Qy × St) (q : List UInt8) (r : List ByteArray) : oneM any false ⟨⟨(34 :: q).toArray⟩ :: r, 0⟩ = (.node 1 (wordsL q) .nil .nil, if wordsL q = [] then ⟨r, 3⟩ else ⟨r, 0⟩) := by
  have hp : (⟨(⟨(34 :: q).toArray⟩ : ByteArray) :: r, 0⟩ : St).peek = ⟨(34 :: q).toArray⟩ := rfl
  have n0 := mk_none 34 q
  have k : ∀ d : UInt8, (34 : UInt8) ≠ d → (⟨(34 :: q).toArray⟩ : ByteArray) ≠ ⟨#[d]⟩ := fun d h => mk_ne h
  have kk : ∀ (d : UInt8) (m : List UInt8), (34 : UInt8) ≠ d → (⟨(34 :: q).toArray⟩ : ByteArray) ≠ ⟨(d :: m).toArray⟩ := fun d m h e => by
    have := congrArg firstB e
    rw [first_mk, first_mk] at this
    exact h this
  have hno : noOne ⟨(34 :: q).toArray⟩ = false := by
    unfold noOne
    rw [decide_eq_false n0, decide_eq_false (show ¬ _ = tShut from k 41 (by decide)), decide_eq_false (show ¬ _ = tStar from k 42 (by decide)), decide_eq_false (show ¬ _ = tAnd from kk 65 [78, 68] (by decide)), decide_eq_false (show ¬ _ = tOr from kk 79 [82] (by decide)), decide_eq_false (show ¬ _ = tNot from kk 78 [79, 84] (by decide)), decide_eq_false (show ¬ _ = tNear from kk 78 [69, 65, 82] (by decide))]
    rfl
  unfold oneM
  rw [hp]
  simp only [Bool.false_eq_true, if_false]
  rw [if_neg (show ¬ _ = tOpen from k 40 (by decide)), if_neg (by rw [hno]; decide), if_pos (first_mk 34 q), take_yes hp]
  rfl

set_option maxRecDepth 100000 in
set_option maxHeartbeats 4000000 in
theorem pone_quote (any : St → Qy × St) (A : Nat) (d : Int) (q : List UInt8) (r : List ByteArray) (w : World) (h : Rd A (⟨(34 :: q).toArray⟩ :: r) w) (hq : q.length ≤ 400) (hd : ¬ 12 < d) : POne A d w (oneM any false ⟨⟨(34 :: q).toArray⟩ :: r, 0⟩) := by
  show Calls _ _ _ _ _
  have H : Hid (Rd A (⟨(34 :: q).toArray⟩ :: r) w) := h
  obtain ⟨ws, hws⟩ : ∃ ws, wordsL q = ws := ⟨_, rfl⟩
  obtain ⟨R, hR⟩ : ∃ R, oneM any false ⟨⟨(34 :: q).toArray⟩ :: r, 0⟩ = R := ⟨_, rfl⟩
  rw [hR]
  have HR : Hid (R = (.node 1 ws .nil .nil, if ws = [] then ⟨r, 3⟩ else ⟨r, 0⟩)) := by
    show _ = _
    rw [← hR, oneM_quote, hws]
  have hwl : ws.length ≤ 401 := by rw [← hws]; have := words_length q; omega
  have HW : Hid (wordsL (⟨q.toArray⟩ : ByteArray).data.toList = ws ∧ (⟨q.toArray⟩ : ByteArray).size ≤ 400) := ⟨hws, by rw [← ba_len]; exact hq⟩
  clear h hR hws hq
  go_enter Tryd.func43, Tryd.ntmps43
  go_wp2_with fail
  refine (take_as A (⟨(34 :: q).toArray⟩ :: r) 4 ⟨q.toArray⟩ r w H.out (kind_quoted q) rfl).mono ?_
  rintro _ w1 ⟨rfl, hr1, hg1⟩
  have HG : Hid (w.grownBy (w1.alloc (.cells #[.int .i64 4, .string ⟨q.toArray⟩] 61)) (some A) ∧ Rd A r (w1.alloc (.cells #[.int .i64 4, .string ⟨q.toArray⟩] 61))) := ⟨grown_alloc hg1 _, hr1.alloc _⟩
  have hA1 := hr1.lt
  clear hr1 hg1
  go_wp2_with fail
  refine (split_any ⟨q.toArray⟩ _ (by have := HW.out.2; omega) HG.out.2.ends).mono ?_
  rintro _ w2 ⟨v2, rfl, ho2, hb2⟩
  rw [HW.out.1] at ho2
  have HG2 : Hid (w.grownBy w2 (some A) ∧ Rd A r w2) := ⟨HG.out.1.trans (grown_of_belowA hb2 _), HG.out.2.below hb2⟩
  have HRow : Hid (RowW A w2 v2 ws) := rowW_of_own ho2 (by simp; omega) (by omega)
  obtain ⟨a, cap, rfl⟩ : ∃ a cap, v2 = .slice a ws.length cap := by
    rcases ho2.2 with ⟨rfl, h0⟩ | ⟨g, cap, cur, rfl, _⟩
    · exact ⟨none, 0, by rw [h0]⟩
    · exact ⟨_, cap, rfl⟩
  clear ho2 hb2 HG
  obtain ⟨n, hn⟩ : ∃ n, ws.length = n := ⟨_, rfl⟩
  by_cases h0 : ws = []
  · have HT : Hid (R.2.bad = 3) := by show _ = _; rw [HR.out, if_pos h0]
    subst h0
    clear HR hn
    go_wp2_with (go_at_call 20; refine (must_no _).mono ?_; rintro _ w0 ⟨rfl, hw0⟩; obtain rfl : w2 = w0 := hw0.symm)
    exact ⟨rfl, Out.thrown HT.out (by decide) HG2.out.1⟩
  · have HT : Hid (R = (.node 1 ws .nil .nil, ⟨r, 0⟩)) := by show _ = _; rw [HR.out, if_neg h0]
    have hpos : 0 < n := by rw [← hn]; exact List.length_pos_iff.2 h0
    have HRow2 : Hid (RowW A w2 (.slice a n cap) ws) := by have := HRow.out; rw [hn] at this; exact this
    rw [hn]
    have d1 : decide ((0 : Int) < (n : Int)) = true := decide_eq_true (by omega)
    clear HR HRow hn h0
    go_wp2_with (go_at_call 20; refine (must_yes _).mono ?_; rintro _ w0 ⟨rfl, hw0⟩; obtain rfl : w2 = w0 := hw0.symm)
    go_ret
    exact Out.made HT.out (grown_alloc HG2.out.1 _) (MQ.box HG2.out.2.lt 1 _ none none ws .nil .nil HRow2.out rfl rfl 0 rfl) (HG2.out.2.alloc _)
end Go.Proofs.YtleegplecdknlaaDoor
