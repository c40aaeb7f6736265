/- The program's one: words, beginnings, words that stand near. -/
import Derived.Test.YtleegplecdknlaaDoorPOne2
namespace Go.Proofs.YtleegplecdknlaaDoor
open Go.RowKit

set_option maxRecDepth 100000 in
set_option maxHeartbeats 4000000 in
theorem pone_nearbad (A : Nat) (d : Int) (x : ByteArray) (r : List ByteArray) (w : World) (R : Qy × St) (h : Rd A (x :: r) w) (hd : ¬ 12 < d) (hx : RunP x) (hs : signT x = false) (r2 : List ByteArray) (hn : r = tNear :: r2) (y : ByteArray) (hw : wordsL x.data.toList = [y]) (k2 : Int) (x2 : ByteArray) (hk2 : k2 ≠ 5) (hx2 : headP r2 = (k2, x2)) (hR : R.2.bad = 3) : POne A d w R := by
  show Calls _ _ _ _ _
  have H : Hid (Rd A (x :: r) w ∧ RunP x ∧ signT x = false) := ⟨h, hx, hs⟩
  have HN : Hid (r = tNear :: r2) := hn
  have HS : Hid ((⟨r, 0⟩ : St).peek ≠ tStar) := by show ¬ _; rw [hn]; exact (show ¬ tNear = tStar by decide)
  clear hn
  have HR : Hid (R.2.bad = 3 ∧ wordsL x.data.toList = [y] ∧ headP r2 = (k2, x2)) := ⟨hR, hw, hx2⟩
  have j5 : (k2 == 5) = false := by simpa using hk2
  clear hR hw hk2 hx2
  clear h hx hs
  go_enter Tryd.func43, Tryd.ntmps43
  go_wp2_with fail
  refine (take_as A (x :: r) 5 x r w H.out.1 H.out.2.1.kind rfl).mono ?_
  rintro _ w1 ⟨rfl, hr1, hg1⟩
  obtain ⟨W1, hW1⟩ : ∃ W, w1.alloc (.cells #[.int .i64 5, .string x] 61) = W := ⟨_, rfl⟩
  have HG : Hid (w.grownBy W1 (some A) ∧ Rd A r W1) := by rw [← hW1]; exact ⟨grown_alloc hg1 _, hr1.alloc _⟩
  have hA1 := hr1.lt
  have hW : W1.heap.size = w1.heap.size + 1 := by rw [← hW1]; simp
  have c0 : W1.cell? ⟨w1.heap.size, 0, none⟩ = some (.int .i64 5) := by rw [← hW1]; simp [go_sem]
  have c1 : W1.cell? ⟨w1.heap.size, 1, none⟩ = some (.string x) := by rw [← hW1]; simp [go_sem]
  obtain ⟨k, xk, hk3, hk, hpk⟩ : ∃ k x, k ≠ 3 ∧ headP r = (k, x) ∧ (⟨r, 0⟩ : St).peek ≠ tStar := by
    rcases head_star HG.out.2.2 with ⟨_, r', e, _⟩ | h
    · exact absurd (show (⟨r, 0⟩ : St).peek = tStar by rw [e]; rfl) HS.out
    · exact h
  have c2 : W1.cell? ⟨A, 0, none⟩ = some (.int .i64 k) := by have := HG.out.2.1.1.1; rw [hk] at this; exact this
  have j3 : (k == 3) = false := by simpa using hk3
  clear hk hk3 hpk
  clear hr1 hg1
  go_wp2_with first | (go_at_call 20; refine (must_yes _).mono ?_; rintro _ w0 ⟨rfl, hw0⟩; obtain rfl := hw0.symm) | (go_at_call 56; refine (isSign_any x false H.out.2.2 _).mono ?_; rintro _ w0 ⟨rfl, hw0⟩; obtain rfl := hw0.symm) | fail
  refine (plainY_any x y W1 (by have := H.out.2.1.size; omega) HG.out.2.ends HR.out.2.1).mono ?_
  rintro e w3 ⟨rfl, hb3⟩
  have HG3 : Hid (w.grownBy w3 (some A) ∧ Rd A r w3) := ⟨HG.out.1.trans (grown_of_belowA hb3 _), HG.out.2.below hb3⟩
  clear hb3 c0 c1 c2 hW1
  go_wp2_with fail
  refine (signY_any A r tNear w3 HG3.out.2 kind_near (by decide) (by rw [HN.out]; rfl)).mono ?_
  rintro e w4 ⟨rfl, hr4, hg4⟩
  rw [HN.out, List.tail_cons] at hr4
  have HG4 : Hid (w.grownBy w4 (some A) ∧ Rd A r2 w4) := ⟨HG3.out.1.trans hg4, hr4⟩
  clear hr4 hg4
  go_wp2_with fail
  refine (take_as A r2 k2 x2 _ w4 HG4.out.2 HR.out.2.2 rfl).mono ?_
  rintro _ w5 ⟨rfl, hr5, hg5⟩
  have HG5 : Hid (w.grownBy w5 (some A)) := HG4.out.1.trans hg5
  clear hr5 hg5
  go_wp2_with (go_at_call 20; refine (must_no _).mono ?_; rintro _ w0 ⟨rfl, hw0⟩; obtain rfl := hw0.symm)
  exact ⟨rfl, Out.thrown HR.out.1 (by decide) (grown_alloc HG5.out _)⟩

set_option maxRecDepth 100000 in
set_option maxHeartbeats 4000000 in
theorem pone_nearno (A : Nat) (d : Int) (x : ByteArray) (r : List ByteArray) (w : World) (R : Qy × St) (h : Rd A (x :: r) w) (hd : ¬ 12 < d) (hx : RunP x) (hs : signT x = false) (r2 : List ByteArray) (hn : r = tNear :: r2) (t : ByteArray) (r3 : List ByteArray) (hr2 : r2 = t :: r3) (ht : RunP t) (y : ByteArray) (hw : wordsL x.data.toList = [y]) (hwt : (wordsL t.data.toList).length ≠ 1) (hR : R.2.bad = 3) : POne A d w R := by
  show Calls _ _ _ _ _
  have H : Hid (Rd A (x :: r) w ∧ RunP x ∧ signT x = false) := ⟨h, hx, hs⟩
  have HN : Hid (r = tNear :: r2) := hn
  have HS : Hid ((⟨r, 0⟩ : St).peek ≠ tStar) := by show ¬ _; rw [hn]; exact (show ¬ tNear = tStar by decide)
  clear hn
  have HR : Hid (R.2.bad = 3 ∧ wordsL x.data.toList = [y] ∧ RunP t ∧ (wordsL t.data.toList).length ≠ 1) := ⟨hR, hw, ht, hwt⟩
  have HR2 : Hid (r2 = t :: r3) := hr2
  clear hR hw ht hwt hr2
  clear h hx hs
  go_enter Tryd.func43, Tryd.ntmps43
  go_wp2_with fail
  refine (take_as A (x :: r) 5 x r w H.out.1 H.out.2.1.kind rfl).mono ?_
  rintro _ w1 ⟨rfl, hr1, hg1⟩
  obtain ⟨W1, hW1⟩ : ∃ W, w1.alloc (.cells #[.int .i64 5, .string x] 61) = W := ⟨_, rfl⟩
  have HG : Hid (w.grownBy W1 (some A) ∧ Rd A r W1) := by rw [← hW1]; exact ⟨grown_alloc hg1 _, hr1.alloc _⟩
  have hA1 := hr1.lt
  have hW : W1.heap.size = w1.heap.size + 1 := by rw [← hW1]; simp
  have c0 : W1.cell? ⟨w1.heap.size, 0, none⟩ = some (.int .i64 5) := by rw [← hW1]; simp [go_sem]
  have c1 : W1.cell? ⟨w1.heap.size, 1, none⟩ = some (.string x) := by rw [← hW1]; simp [go_sem]
  obtain ⟨k, xk, hk3, hk, hpk⟩ : ∃ k x, k ≠ 3 ∧ headP r = (k, x) ∧ (⟨r, 0⟩ : St).peek ≠ tStar := by
    rcases head_star HG.out.2.2 with ⟨_, r', e, _⟩ | h
    · exact absurd (show (⟨r, 0⟩ : St).peek = tStar by rw [e]; rfl) HS.out
    · exact h
  have c2 : W1.cell? ⟨A, 0, none⟩ = some (.int .i64 k) := by have := HG.out.2.1.1.1; rw [hk] at this; exact this
  have j3 : (k == 3) = false := by simpa using hk3
  clear hk hk3 hpk
  clear hr1 hg1
  go_wp2_with first | (go_at_call 20; refine (must_yes _).mono ?_; rintro _ w0 ⟨rfl, hw0⟩; obtain rfl := hw0.symm) | (go_at_call 56; refine (isSign_any x false H.out.2.2 _).mono ?_; rintro _ w0 ⟨rfl, hw0⟩; obtain rfl := hw0.symm) | fail
  refine (plainY_any x y W1 (by have := H.out.2.1.size; omega) HG.out.2.ends HR.out.2.1).mono ?_
  rintro e w3 ⟨rfl, hb3⟩
  have HG3 : Hid (w.grownBy w3 (some A) ∧ Rd A r w3) := ⟨HG.out.1.trans (grown_of_belowA hb3 _), HG.out.2.below hb3⟩
  clear hb3 c0 c1 c2 hW1
  go_wp2_with fail
  refine (signY_any A r tNear w3 HG3.out.2 kind_near (by decide) (by rw [HN.out]; rfl)).mono ?_
  rintro e w4 ⟨rfl, hr4, hg4⟩
  rw [HN.out, List.tail_cons] at hr4
  have HG4 : Hid (w.grownBy w4 (some A) ∧ Rd A r2 w4) := ⟨HG3.out.1.trans hg4, hr4⟩
  clear hr4 hg4
  go_wp2_with fail
  refine (take_as A r2 5 t r3 w4 HG4.out.2 (by rw [HR2.out]; exact HR.out.2.2.1.kind) (by rw [HR2.out]; rfl)).mono ?_
  rintro _ w5 ⟨rfl, hr5, hg5⟩
  obtain ⟨W5, hW5⟩ : ∃ W, w5.alloc (.cells #[.int .i64 5, .string t] 61) = W := ⟨_, rfl⟩
  have HG5 : Hid (w.grownBy W5 (some A) ∧ Rd A r3 W5) := by rw [← hW5]; exact ⟨grown_alloc (HG4.out.1.trans hg5) _, hr5.alloc _⟩
  have g0 : W5.cell? ⟨w5.heap.size, 0, none⟩ = some (.int .i64 5) := by rw [← hW5]; simp [go_sem]
  have g1 : W5.cell? ⟨w5.heap.size, 1, none⟩ = some (.string t) := by rw [← hW5]; simp [go_sem]
  clear hr5 hg5
  go_wp2_with first | (go_at_call 20; refine (must_yes _).mono ?_; rintro _ w0 ⟨rfl, hw0⟩; obtain rfl := hw0.symm) | fail
  refine (plainN_any t W5 (by have := HR.out.2.2.1.size; omega) HG5.out.2.ends HR.out.2.2.2).mono ?_
  rintro e w6 ⟨rfl, hb6⟩
  have HG6 : Hid (w.grownBy w6 (some A)) := HG5.out.1.trans (grown_of_belowA hb6 _)
  clear hb6 g0 g1 hW5
  go_wp2
  exact ⟨rfl, Out.thrown HR.out.1 (by decide) HG6.out⟩

set_option maxRecDepth 100000 in
set_option maxHeartbeats 4000000 in
theorem pone_nearyes (A : Nat) (d : Int) (x : ByteArray) (r : List ByteArray) (w : World) (R : Qy × St) (h : Rd A (x :: r) w) (hd : ¬ 12 < d) (hx : RunP x) (hs : signT x = false) (r2 : List ByteArray) (hn : r = tNear :: r2) (t : ByteArray) (r3 : List ByteArray) (hr2 : r2 = t :: r3) (ht : RunP t) (y z : ByteArray) (hw : wordsL x.data.toList = [y]) (hwt : wordsL t.data.toList = [z]) (hR : R = (.node 3 [y, z] .nil .nil, ⟨r3, 0⟩)) : POne A d w R := by
  show Calls _ _ _ _ _
  have H : Hid (Rd A (x :: r) w ∧ RunP x ∧ signT x = false) := ⟨h, hx, hs⟩
  have HN : Hid (r = tNear :: r2) := hn
  have HS : Hid ((⟨r, 0⟩ : St).peek ≠ tStar) := by show ¬ _; rw [hn]; exact (show ¬ tNear = tStar by decide)
  clear hn
  have HR : Hid (R = (.node 3 [y, z] .nil .nil, ⟨r3, 0⟩) ∧ wordsL x.data.toList = [y] ∧ RunP t ∧ wordsL t.data.toList = [z]) := ⟨hR, hw, ht, hwt⟩
  have HR2 : Hid (r2 = t :: r3) := hr2
  clear hR hw ht hwt hr2
  clear h hx hs
  go_enter Tryd.func43, Tryd.ntmps43
  go_wp2_with fail
  refine (take_as A (x :: r) 5 x r w H.out.1 H.out.2.1.kind rfl).mono ?_
  rintro _ w1 ⟨rfl, hr1, hg1⟩
  obtain ⟨W1, hW1⟩ : ∃ W, w1.alloc (.cells #[.int .i64 5, .string x] 61) = W := ⟨_, rfl⟩
  have HG : Hid (w.grownBy W1 (some A) ∧ Rd A r W1) := by rw [← hW1]; exact ⟨grown_alloc hg1 _, hr1.alloc _⟩
  have hA1 := hr1.lt
  have hW : W1.heap.size = w1.heap.size + 1 := by rw [← hW1]; simp
  have c0 : W1.cell? ⟨w1.heap.size, 0, none⟩ = some (.int .i64 5) := by rw [← hW1]; simp [go_sem]
  have c1 : W1.cell? ⟨w1.heap.size, 1, none⟩ = some (.string x) := by rw [← hW1]; simp [go_sem]
  obtain ⟨k, xk, hk3, hk, hpk⟩ : ∃ k x, k ≠ 3 ∧ headP r = (k, x) ∧ (⟨r, 0⟩ : St).peek ≠ tStar := by
    rcases head_star HG.out.2.2 with ⟨_, r', e, _⟩ | h
    · exact absurd (show (⟨r, 0⟩ : St).peek = tStar by rw [e]; rfl) HS.out
    · exact h
  have c2 : W1.cell? ⟨A, 0, none⟩ = some (.int .i64 k) := by have := HG.out.2.1.1.1; rw [hk] at this; exact this
  have j3 : (k == 3) = false := by simpa using hk3
  clear hk hk3 hpk
  clear hr1 hg1
  go_wp2_with first | (go_at_call 20; refine (must_yes _).mono ?_; rintro _ w0 ⟨rfl, hw0⟩; obtain rfl := hw0.symm) | (go_at_call 56; refine (isSign_any x false H.out.2.2 _).mono ?_; rintro _ w0 ⟨rfl, hw0⟩; obtain rfl := hw0.symm) | fail
  refine (plainY_any x y W1 (by have := H.out.2.1.size; omega) HG.out.2.ends HR.out.2.1).mono ?_
  rintro e w3 ⟨rfl, hb3⟩
  have HG3 : Hid (w.grownBy w3 (some A) ∧ Rd A r w3) := ⟨HG.out.1.trans (grown_of_belowA hb3 _), HG.out.2.below hb3⟩
  clear hb3 c0 c1 c2 hW1
  go_wp2_with fail
  refine (signY_any A r tNear w3 HG3.out.2 kind_near (by decide) (by rw [HN.out]; rfl)).mono ?_
  rintro e w4 ⟨rfl, hr4, hg4⟩
  rw [HN.out, List.tail_cons] at hr4
  have HG4 : Hid (w.grownBy w4 (some A) ∧ Rd A r2 w4) := ⟨HG3.out.1.trans hg4, hr4⟩
  clear hr4 hg4
  go_wp2_with fail
  refine (take_as A r2 5 t r3 w4 HG4.out.2 (by rw [HR2.out]; exact HR.out.2.2.1.kind) (by rw [HR2.out]; rfl)).mono ?_
  rintro _ w5 ⟨rfl, hr5, hg5⟩
  obtain ⟨W5, hW5⟩ : ∃ W, w5.alloc (.cells #[.int .i64 5, .string t] 61) = W := ⟨_, rfl⟩
  have HG5 : Hid (w.grownBy W5 (some A) ∧ Rd A r3 W5) := by rw [← hW5]; exact ⟨grown_alloc (HG4.out.1.trans hg5) _, hr5.alloc _⟩
  have g0 : W5.cell? ⟨w5.heap.size, 0, none⟩ = some (.int .i64 5) := by rw [← hW5]; simp [go_sem]
  have g1 : W5.cell? ⟨w5.heap.size, 1, none⟩ = some (.string t) := by rw [← hW5]; simp [go_sem]
  clear hr5 hg5
  go_wp2_with first | (go_at_call 20; refine (must_yes _).mono ?_; rintro _ w0 ⟨rfl, hw0⟩; obtain rfl := hw0.symm) | fail
  refine (plainY_any t z W5 (by have := HR.out.2.2.1.size; omega) HG5.out.2.ends HR.out.2.2.2).mono ?_
  rintro e w6 ⟨rfl, hb6⟩
  have HG6 : Hid (w.grownBy w6 (some A) ∧ Rd A r3 w6) := ⟨HG5.out.1.trans (grown_of_belowA hb6 _), HG5.out.2.below hb6⟩
  clear hb6 g0 g1 hW5
  go_wp2
  go_ret
  exact Out.made HR.out.1 (grown_alloc (grown_alloc HG6.out.1 _) _) (MQ.boxAt (by simp) (by simp; have := HG6.out.2.lt; omega) 3 _ none none [y, z] .nil .nil (row_two y z HG6.out.2.lt) rfl rfl 3 rfl) ((HG6.out.2.alloc _).alloc _)
end Go.Proofs.YtleegplecdknlaaDoor
