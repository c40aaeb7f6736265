/- The program's one: words, beginnings, words that stand near. -/
import Derived.Test.YtleegplecdknlaaDoorPOneP
namespace Go.Proofs.YtleegplecdknlaaDoor
open Go.RowKit

set_option maxRecDepth 100000 in
set_option maxHeartbeats 4000000 in
theorem pone_star (A : Nat) (d : Int) (x : ByteArray) (r : List ByteArray) (w : World) (R : Qy × St) (h : Rd A (x :: r) w) (hd : ¬ 12 < d) (hx : RunP x) (hs : signT x = false) (r2 : List ByteArray) (hr : r = tStar :: r2) (hR : R = (.node 2 [smallS x] .nil .nil, if begB x = true then ⟨r2, 0⟩ else ⟨r2, 3⟩)) : POne A d w R := by
  show Calls _ _ _ _ _
  have H : Hid (Rd A (x :: r) w ∧ RunP x ∧ signT x = false) := ⟨h, hx, hs⟩
  have HR : Hid (R = (.node 2 [smallS x] .nil .nil, if begB x = true then ⟨r2, 0⟩ else ⟨r2, 3⟩)) := hR
  have HRr : Hid (r = tStar :: r2) := hr
  clear hR hr
  clear h hx hs
  go_enter Tryd.func43, Tryd.ntmps43
  go_wp2_with fail
  refine (take_as A (x :: r) 5 x r w H.out.1 H.out.2.1.kind rfl).mono ?_
  rintro _ w1 ⟨rfl, hr1, hg1⟩
  obtain ⟨W1, hW1⟩ : ∃ W, w1.alloc (.cells #[.int .i64 5, .string x] 61) = W := ⟨_, rfl⟩
  have HG : Hid (w.grownBy W1 (some A) ∧ Rd A r W1) := by rw [← hW1]; exact ⟨grown_alloc hg1 _, hr1.alloc _⟩
  have hA1 := hr1.lt
  have hW : W1.heap.size = w1.heap.size + 1 := by rw [← hW1]; simp
  have c0 : W1.cell? ⟨w1.heap.size, 0, none⟩ = some (.int .i64 5) := by rw [← hW1]; simp [go_sem]
  have c1 : W1.cell? ⟨w1.heap.size, 1, none⟩ = some (.string x) := by rw [← hW1]; simp [go_sem]
  have c2 : W1.cell? ⟨A, 0, none⟩ = some (.int .i64 3) := by have := HG.out.2.1.1.1; rw [HRr.out] at this; exact this
  clear hr1 hg1
  go_wp2_with first | (go_at_call 20; refine (must_yes _).mono ?_; rintro _ w0 ⟨rfl, hw0⟩; obtain rfl := hw0.symm) | (go_at_call 56; refine (isSign_any x false H.out.2.2 _).mono ?_; rintro _ w0 ⟨rfl, hw0⟩; obtain rfl := hw0.symm) | fail
  refine (take_as A r 3 ⟨#[]⟩ r2 W1 HG.out.2 (by rw [HRr.out]; rfl) (by rw [HRr.out]; rfl)).mono ?_
  rintro _ w2 ⟨rfl, hr2, hg2⟩
  have HG2 : Hid (w.grownBy w2 (some A) ∧ Rd A r2 w2) := ⟨HG.out.1.trans hg2, hr2⟩
  have e1 : w2.cell? ⟨w1.heap.size, 1, none⟩ = some (.string x) := by rw [cell_grown hg2 (by omega) (by omega)]; exact c1
  clear hr2 hg2 c0 c1 c2 hW1
  go_wp2_with fail
  refine (beg_any x w2).mono ?_
  rintro e w3 ⟨hcase, hb3⟩
  have HG3 : Hid (w.grownBy w3 (some A) ∧ Rd A r2 w3) := ⟨HG2.out.1.trans (grown_of_belowA hb3 _), HG2.out.2.below hb3⟩
  clear hb3 e1
  rcases hcase with ⟨hb, rfl⟩ | ⟨hb, rfl⟩
  · have HT : Hid (R = (.node 2 [smallS x] .nil .nil, ⟨r2, 0⟩)) := by show _ = _; rw [HR.out, if_pos hb]
    clear hb HR
    go_wp2
    go_ret
    exact Out.made HT.out (grown_alloc (grown_alloc HG3.out.1 _) _) (MQ.boxAt (by simp) (by simp; have := HG3.out.2.lt; omega) 2 _ none none [smallS x] .nil .nil (row_one (smallS x) HG3.out.2.lt) rfl rfl 0 rfl) ((HG3.out.2.alloc _).alloc _)
  · have HT : Hid (R.2.bad = 3) := by show _ = _; rw [HR.out, hb, if_neg (by decide)]
    clear hb HR
    go_wp2
    exact ⟨rfl, Out.thrown HT.out (by decide) HG3.out.1⟩

set_option maxRecDepth 100000 in
set_option maxHeartbeats 4000000 in
theorem pone_noplain (A : Nat) (d : Int) (x : ByteArray) (r : List ByteArray) (w : World) (R : Qy × St) (h : Rd A (x :: r) w) (hd : ¬ 12 < d) (hx : RunP x) (hs : signT x = false) (hst : (⟨r, 0⟩ : St).peek ≠ tStar) (hw : (wordsL x.data.toList).length ≠ 1) (hR : R.2.bad = 3) : POne A d w R := by
  show Calls _ _ _ _ _
  have H : Hid (Rd A (x :: r) w ∧ RunP x ∧ signT x = false) := ⟨h, hx, hs⟩
  have HS : Hid ((⟨r, 0⟩ : St).peek ≠ tStar) := hst
  clear hst
  have HR : Hid (R.2.bad = 3 ∧ (wordsL x.data.toList).length ≠ 1) := ⟨hR, hw⟩
  clear hR hw
  clear h hx hs
  go_enter Tryd.func43, Tryd.ntmps43
  go_wp2_with fail
  refine (take_as A (x :: r) 5 x r w H.out.1 H.out.2.1.kind rfl).mono ?_
  rintro _ w1 ⟨rfl, hr1, hg1⟩
  obtain ⟨W1, hW1⟩ : ∃ W, w1.alloc (.cells #[.int .i64 5, .string x] 61) = W := ⟨_, rfl⟩
  have HG : Hid (w.grownBy W1 (some A) ∧ Rd A r W1) := by rw [← hW1]; exact ⟨grown_alloc hg1 _, hr1.alloc _⟩
  have hA1 := hr1.lt
  have hW : W1.heap.size = w1.heap.size + 1 := by rw [← hW1]; simp
  have c0 : W1.cell? ⟨w1.heap.size, 0, none⟩ = some (.int .i64 5) := by rw [← hW1]; simp [go_sem]
  have c1 : W1.cell? ⟨w1.heap.size, 1, none⟩ = some (.string x) := by rw [← hW1]; simp [go_sem]
  obtain ⟨k, xk, hk3, hk, hpk⟩ : ∃ k x, k ≠ 3 ∧ headP r = (k, x) ∧ (⟨r, 0⟩ : St).peek ≠ tStar := by
    rcases head_star HG.out.2.2 with ⟨_, r', e, _⟩ | h
    · exact absurd (show (⟨r, 0⟩ : St).peek = tStar by rw [e]; rfl) HS.out
    · exact h
  have c2 : W1.cell? ⟨A, 0, none⟩ = some (.int .i64 k) := by have := HG.out.2.1.1.1; rw [hk] at this; exact this
  have j3 : (k == 3) = false := by simpa using hk3
  clear hk hk3 hpk
  clear hr1 hg1
  go_wp2_with first | (go_at_call 20; refine (must_yes _).mono ?_; rintro _ w0 ⟨rfl, hw0⟩; obtain rfl := hw0.symm) | (go_at_call 56; refine (isSign_any x false H.out.2.2 _).mono ?_; rintro _ w0 ⟨rfl, hw0⟩; obtain rfl := hw0.symm) | fail
  refine (plainN_any x W1 (by have := H.out.2.1.size; omega) HG.out.2.ends HR.out.2).mono ?_
  rintro e w3 ⟨rfl, hb3⟩
  have HG3 : Hid (w.grownBy w3 (some A)) := HG.out.1.trans (grown_of_belowA hb3 _)
  clear hb3 c0 c1 c2 hW1
  go_wp2
  exact ⟨rfl, Out.thrown HR.out.1 (by decide) HG3.out⟩

set_option maxRecDepth 100000 in
set_option maxHeartbeats 4000000 in
theorem pone_word (A : Nat) (d : Int) (x : ByteArray) (r : List ByteArray) (w : World) (R : Qy × St) (h : Rd A (x :: r) w) (hd : ¬ 12 < d) (hx : RunP x) (hs : signT x = false) (hst : (⟨r, 0⟩ : St).peek ≠ tStar) (y : ByteArray) (hw : wordsL x.data.toList = [y]) (hn : (⟨r, 0⟩ : St).peek ≠ tNear) (hR : R = (.node 1 [y] .nil .nil, ⟨r, 0⟩)) : POne A d w R := by
  show Calls _ _ _ _ _
  have H : Hid (Rd A (x :: r) w ∧ RunP x ∧ signT x = false) := ⟨h, hx, hs⟩
  have HS : Hid ((⟨r, 0⟩ : St).peek ≠ tStar) := hst
  clear hst
  have HR : Hid (R = (.node 1 [y] .nil .nil, ⟨r, 0⟩) ∧ wordsL x.data.toList = [y] ∧ (⟨r, 0⟩ : St).peek ≠ tNear) := ⟨hR, hw, hn⟩
  clear hR hw hn
  clear h hx hs
  go_enter Tryd.func43, Tryd.ntmps43
  go_wp2_with fail
  refine (take_as A (x :: r) 5 x r w H.out.1 H.out.2.1.kind rfl).mono ?_
  rintro _ w1 ⟨rfl, hr1, hg1⟩
  obtain ⟨W1, hW1⟩ : ∃ W, w1.alloc (.cells #[.int .i64 5, .string x] 61) = W := ⟨_, rfl⟩
  have HG : Hid (w.grownBy W1 (some A) ∧ Rd A r W1) := by rw [← hW1]; exact ⟨grown_alloc hg1 _, hr1.alloc _⟩
  have hA1 := hr1.lt
  have hW : W1.heap.size = w1.heap.size + 1 := by rw [← hW1]; simp
  have c0 : W1.cell? ⟨w1.heap.size, 0, none⟩ = some (.int .i64 5) := by rw [← hW1]; simp [go_sem]
  have c1 : W1.cell? ⟨w1.heap.size, 1, none⟩ = some (.string x) := by rw [← hW1]; simp [go_sem]
  obtain ⟨k, xk, hk3, hk, hpk⟩ : ∃ k x, k ≠ 3 ∧ headP r = (k, x) ∧ (⟨r, 0⟩ : St).peek ≠ tStar := by
    rcases head_star HG.out.2.2 with ⟨_, r', e, _⟩ | h
    · exact absurd (show (⟨r, 0⟩ : St).peek = tStar by rw [e]; rfl) HS.out
    · exact h
  have c2 : W1.cell? ⟨A, 0, none⟩ = some (.int .i64 k) := by have := HG.out.2.1.1.1; rw [hk] at this; exact this
  have j3 : (k == 3) = false := by simpa using hk3
  clear hk hk3 hpk
  clear hr1 hg1
  go_wp2_with first | (go_at_call 20; refine (must_yes _).mono ?_; rintro _ w0 ⟨rfl, hw0⟩; obtain rfl := hw0.symm) | (go_at_call 56; refine (isSign_any x false H.out.2.2 _).mono ?_; rintro _ w0 ⟨rfl, hw0⟩; obtain rfl := hw0.symm) | fail
  refine (plainY_any x y W1 (by have := H.out.2.1.size; omega) HG.out.2.ends HR.out.2.1).mono ?_
  rintro e w3 ⟨rfl, hb3⟩
  have HG3 : Hid (w.grownBy w3 (some A) ∧ Rd A r w3) := ⟨HG.out.1.trans (grown_of_belowA hb3 _), HG.out.2.below hb3⟩
  clear hb3 c0 c1 c2 hW1
  go_wp2_with fail
  refine (signN_any A r tNear w3 HG3.out.2 kind_near (by decide) HR.out.2.2).mono ?_
  rintro e w4 ⟨rfl, hr4, hg4⟩
  have HG4 : Hid (w.grownBy w4 (some A) ∧ Rd A r w4) := ⟨HG3.out.1.trans hg4, hr4⟩
  clear hr4 hg4
  go_wp2
  go_ret
  exact Out.made HR.out.1 (grown_alloc (grown_alloc HG4.out.1 _) _) (MQ.boxAt (by simp) (by simp; have := HG4.out.2.lt; omega) 1 _ none none [y] .nil .nil (row_one y HG4.out.2.lt) rfl rfl 0 rfl) ((HG4.out.2.alloc _).alloc _)
end Go.Proofs.YtleegplecdknlaaDoor
