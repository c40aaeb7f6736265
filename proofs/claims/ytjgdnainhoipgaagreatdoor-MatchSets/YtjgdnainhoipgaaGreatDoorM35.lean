/- Texts of the proof of MatchSets: POne3, PAny, PAll, QRead. -/
import Derived.Test.YtjgdnainhoipgaaGreatDoorM34
namespace Go.Proofs.YtjgdnainhoipgaaGreatDoor
open Go.RowKit

set_option maxRecDepth 100000 in
set_option maxHeartbeats 4000000 in
theorem pone_nearbad (A : Nat) (d : Int) (x : ByteArray) (r : List ByteArray) (w : World) (R : Qy × Rst) (h : Rd A (x :: r) w) (hd : ¬ 12 < d) (hx : RunP x) (hs : signT x = false) (r2 : List ByteArray) (hn : r = tNear :: r2) (y : ByteArray) (hw : wordsL x.data.toList = [y]) (k2 : Int) (x2 : ByteArray) (hk2 : k2 ≠ 5) (hx2 : headP r2 = (k2, x2)) (hR : R.2.bad = 3) : POne A d w R := by
  show Calls _ _ _ _ _
  have H : Hid (Rd A (x :: r) w ∧ RunP x ∧ signT x = false) := ⟨h, hx, hs⟩
  have HN : Hid (r = tNear :: r2) := hn
  have HS : Hid ((⟨r, 0⟩ : Rst).peek ≠ tStar) := by show ¬ _; rw [hn]; exact (show ¬ tNear = tStar by decide)
  clear hn
  have HR : Hid (R.2.bad = 3 ∧ wordsL x.data.toList = [y] ∧ headP r2 = (k2, x2)) := ⟨hR, hw, hx2⟩
  have j5 : (k2 == 5) = false := by simpa using hk2
  clear hR hw hk2 hx2
  clear h hx hs
  go_enter Tryz.func117, Tryz.ntmps117
  go_wp2_with fail
  refine (take_as A (x :: r) 5 x r w H.out.1 H.out.2.1.kind rfl).mono ?_
  rintro _ w1 ⟨rfl, hr1, hg1⟩
  obtain ⟨W1, hW1⟩ : ∃ W, w1.alloc (.cells #[.int .i64 5, .string x] 110) = W := ⟨_, rfl⟩
  have HG : Hid (w.grownBy W1 (some A) ∧ Rd A r W1) := by rw [← hW1]; exact ⟨grown_alloc hg1 _, hr1.alloc _⟩
  have hA1 := hr1.lt
  have hW : W1.heap.size = w1.heap.size + 1 := by rw [← hW1]; simp
  have c0 : W1.cell? ⟨w1.heap.size, 0, none⟩ = some (.int .i64 5) := by rw [← hW1]; simp [go_sem]
  have c1 : W1.cell? ⟨w1.heap.size, 1, none⟩ = some (.string x) := by rw [← hW1]; simp [go_sem]
  obtain ⟨k, xk, hk3, hk, hpk⟩ : ∃ k x, k ≠ 3 ∧ headP r = (k, x) ∧ (⟨r, 0⟩ : Rst).peek ≠ tStar := by
    rcases head_star HG.out.2.2 with ⟨_, r', e, _⟩ | h
    · exact absurd (show (⟨r, 0⟩ : Rst).peek = tStar by rw [e]; rfl) HS.out
    · exact h
  have c2 : W1.cell? ⟨A, 0, none⟩ = some (.int .i64 k) := by have := HG.out.2.1.1.1; rw [hk] at this; exact this
  have j3 : (k == 3) = false := by simpa using hk3
  clear hk hk3 hpk
  clear hr1 hg1
  go_wp2_with first | (go_at_call 42; refine (must_yes _).mono ?_; rintro _ w0 ⟨rfl, hw0⟩; obtain rfl := hw0.symm) | (go_at_call 156; refine (isSign_any x false H.out.2.2 _).mono ?_; rintro _ w0 ⟨rfl, hw0⟩; obtain rfl := hw0.symm) | fail
  refine (plainY_any x y W1 (by have := H.out.2.1.size; omega) HG.out.2.ends HR.out.2.1).mono ?_
  rintro e w3 ⟨rfl, hb3⟩
  have HG3 : Hid (w.grownBy w3 (some A) ∧ Rd A r w3) := ⟨HG.out.1.trans (grown_of_belowA hb3 _), HG.out.2.below hb3⟩
  clear hb3 c0 c1 c2 hW1
  go_wp2_with fail
  refine (signY_any A r tNear w3 HG3.out.2 kind_near (by decide) (by rw [HN.out]; rfl)).mono ?_
  rintro e w4 ⟨rfl, hr4, hg4⟩
  rw [HN.out, List.tail_cons] at hr4
  have HG4 : Hid (w.grownBy w4 (some A) ∧ Rd A r2 w4) := ⟨HG3.out.1.trans hg4, hr4⟩
  clear hr4 hg4
  go_wp2_with fail
  refine (take_as A r2 k2 x2 _ w4 HG4.out.2 HR.out.2.2 rfl).mono ?_
  rintro _ w5 ⟨rfl, hr5, hg5⟩
  have HG5 : Hid (w.grownBy w5 (some A)) := HG4.out.1.trans hg5
  clear hr5 hg5
  go_wp2_with (go_at_call 42; refine (must_no _).mono ?_; rintro _ w0 ⟨rfl, hw0⟩; obtain rfl := hw0.symm)
  exact ⟨rfl, Out.thrown HR.out.1 (by decide) (grown_alloc HG5.out _)⟩

set_option maxRecDepth 100000 in
set_option maxHeartbeats 4000000 in
theorem pone_nearno (A : Nat) (d : Int) (x : ByteArray) (r : List ByteArray) (w : World) (R : Qy × Rst) (h : Rd A (x :: r) w) (hd : ¬ 12 < d) (hx : RunP x) (hs : signT x = false) (r2 : List ByteArray) (hn : r = tNear :: r2) (t : ByteArray) (r3 : List ByteArray) (hr2 : r2 = t :: r3) (ht : RunP t) (y : ByteArray) (hw : wordsL x.data.toList = [y]) (hwt : (wordsL t.data.toList).length ≠ 1) (hR : R.2.bad = 3) : POne A d w R := by
  show Calls _ _ _ _ _
  have H : Hid (Rd A (x :: r) w ∧ RunP x ∧ signT x = false) := ⟨h, hx, hs⟩
  have HN : Hid (r = tNear :: r2) := hn
  have HS : Hid ((⟨r, 0⟩ : Rst).peek ≠ tStar) := by show ¬ _; rw [hn]; exact (show ¬ tNear = tStar by decide)
  clear hn
  have HR : Hid (R.2.bad = 3 ∧ wordsL x.data.toList = [y] ∧ RunP t ∧ (wordsL t.data.toList).length ≠ 1) := ⟨hR, hw, ht, hwt⟩
  have HR2 : Hid (r2 = t :: r3) := hr2
  clear hR hw ht hwt hr2
  clear h hx hs
  go_enter Tryz.func117, Tryz.ntmps117
  go_wp2_with fail
  refine (take_as A (x :: r) 5 x r w H.out.1 H.out.2.1.kind rfl).mono ?_
  rintro _ w1 ⟨rfl, hr1, hg1⟩
  obtain ⟨W1, hW1⟩ : ∃ W, w1.alloc (.cells #[.int .i64 5, .string x] 110) = W := ⟨_, rfl⟩
  have HG : Hid (w.grownBy W1 (some A) ∧ Rd A r W1) := by rw [← hW1]; exact ⟨grown_alloc hg1 _, hr1.alloc _⟩
  have hA1 := hr1.lt
  have hW : W1.heap.size = w1.heap.size + 1 := by rw [← hW1]; simp
  have c0 : W1.cell? ⟨w1.heap.size, 0, none⟩ = some (.int .i64 5) := by rw [← hW1]; simp [go_sem]
  have c1 : W1.cell? ⟨w1.heap.size, 1, none⟩ = some (.string x) := by rw [← hW1]; simp [go_sem]
  obtain ⟨k, xk, hk3, hk, hpk⟩ : ∃ k x, k ≠ 3 ∧ headP r = (k, x) ∧ (⟨r, 0⟩ : Rst).peek ≠ tStar := by
    rcases head_star HG.out.2.2 with ⟨_, r', e, _⟩ | h
    · exact absurd (show (⟨r, 0⟩ : Rst).peek = tStar by rw [e]; rfl) HS.out
    · exact h
  have c2 : W1.cell? ⟨A, 0, none⟩ = some (.int .i64 k) := by have := HG.out.2.1.1.1; rw [hk] at this; exact this
  have j3 : (k == 3) = false := by simpa using hk3
  clear hk hk3 hpk
  clear hr1 hg1
  go_wp2_with first | (go_at_call 42; refine (must_yes _).mono ?_; rintro _ w0 ⟨rfl, hw0⟩; obtain rfl := hw0.symm) | (go_at_call 156; refine (isSign_any x false H.out.2.2 _).mono ?_; rintro _ w0 ⟨rfl, hw0⟩; obtain rfl := hw0.symm) | fail
  refine (plainY_any x y W1 (by have := H.out.2.1.size; omega) HG.out.2.ends HR.out.2.1).mono ?_
  rintro e w3 ⟨rfl, hb3⟩
  have HG3 : Hid (w.grownBy w3 (some A) ∧ Rd A r w3) := ⟨HG.out.1.trans (grown_of_belowA hb3 _), HG.out.2.below hb3⟩
  clear hb3 c0 c1 c2 hW1
  go_wp2_with fail
  refine (signY_any A r tNear w3 HG3.out.2 kind_near (by decide) (by rw [HN.out]; rfl)).mono ?_
  rintro e w4 ⟨rfl, hr4, hg4⟩
  rw [HN.out, List.tail_cons] at hr4
  have HG4 : Hid (w.grownBy w4 (some A) ∧ Rd A r2 w4) := ⟨HG3.out.1.trans hg4, hr4⟩
  clear hr4 hg4
  go_wp2_with fail
  refine (take_as A r2 5 t r3 w4 HG4.out.2 (by rw [HR2.out]; exact HR.out.2.2.1.kind) (by rw [HR2.out]; rfl)).mono ?_
  rintro _ w5 ⟨rfl, hr5, hg5⟩
  obtain ⟨W5, hW5⟩ : ∃ W, w5.alloc (.cells #[.int .i64 5, .string t] 110) = W := ⟨_, rfl⟩
  have HG5 : Hid (w.grownBy W5 (some A) ∧ Rd A r3 W5) := by rw [← hW5]; exact ⟨grown_alloc (HG4.out.1.trans hg5) _, hr5.alloc _⟩
  have g0 : W5.cell? ⟨w5.heap.size, 0, none⟩ = some (.int .i64 5) := by rw [← hW5]; simp [go_sem]
  have g1 : W5.cell? ⟨w5.heap.size, 1, none⟩ = some (.string t) := by rw [← hW5]; simp [go_sem]
  clear hr5 hg5
  go_wp2_with first | (go_at_call 42; refine (must_yes _).mono ?_; rintro _ w0 ⟨rfl, hw0⟩; obtain rfl := hw0.symm) | fail
  refine (plainN_any t W5 (by have := HR.out.2.2.1.size; omega) HG5.out.2.ends HR.out.2.2.2).mono ?_
  rintro e w6 ⟨rfl, hb6⟩
  have HG6 : Hid (w.grownBy w6 (some A)) := HG5.out.1.trans (grown_of_belowA hb6 _)
  clear hb6 g0 g1 hW5
  go_wp2
  exact ⟨rfl, Out.thrown HR.out.1 (by decide) HG6.out⟩

set_option maxRecDepth 100000 in
set_option maxHeartbeats 4000000 in
theorem pone_nearyes (A : Nat) (d : Int) (x : ByteArray) (r : List ByteArray) (w : World) (R : Qy × Rst) (h : Rd A (x :: r) w) (hd : ¬ 12 < d) (hx : RunP x) (hs : signT x = false) (r2 : List ByteArray) (hn : r = tNear :: r2) (t : ByteArray) (r3 : List ByteArray) (hr2 : r2 = t :: r3) (ht : RunP t) (y z : ByteArray) (hw : wordsL x.data.toList = [y]) (hwt : wordsL t.data.toList = [z]) (hR : R = (.node 3 [y, z] .nil .nil, ⟨r3, 0⟩)) : POne A d w R := by
  show Calls _ _ _ _ _
  have H : Hid (Rd A (x :: r) w ∧ RunP x ∧ signT x = false) := ⟨h, hx, hs⟩
  have HN : Hid (r = tNear :: r2) := hn
  have HS : Hid ((⟨r, 0⟩ : Rst).peek ≠ tStar) := by show ¬ _; rw [hn]; exact (show ¬ tNear = tStar by decide)
  clear hn
  have HR : Hid (R = (.node 3 [y, z] .nil .nil, ⟨r3, 0⟩) ∧ wordsL x.data.toList = [y] ∧ RunP t ∧ wordsL t.data.toList = [z]) := ⟨hR, hw, ht, hwt⟩
  have HR2 : Hid (r2 = t :: r3) := hr2
  clear hR hw ht hwt hr2
  clear h hx hs
  go_enter Tryz.func117, Tryz.ntmps117
  go_wp2_with fail
  refine (take_as A (x :: r) 5 x r w H.out.1 H.out.2.1.kind rfl).mono ?_
  rintro _ w1 ⟨rfl, hr1, hg1⟩
  obtain ⟨W1, hW1⟩ : ∃ W, w1.alloc (.cells #[.int .i64 5, .string x] 110) = W := ⟨_, rfl⟩
  have HG : Hid (w.grownBy W1 (some A) ∧ Rd A r W1) := by rw [← hW1]; exact ⟨grown_alloc hg1 _, hr1.alloc _⟩
  have hA1 := hr1.lt
  have hW : W1.heap.size = w1.heap.size + 1 := by rw [← hW1]; simp
  have c0 : W1.cell? ⟨w1.heap.size, 0, none⟩ = some (.int .i64 5) := by rw [← hW1]; simp [go_sem]
  have c1 : W1.cell? ⟨w1.heap.size, 1, none⟩ = some (.string x) := by rw [← hW1]; simp [go_sem]
  obtain ⟨k, xk, hk3, hk, hpk⟩ : ∃ k x, k ≠ 3 ∧ headP r = (k, x) ∧ (⟨r, 0⟩ : Rst).peek ≠ tStar := by
    rcases head_star HG.out.2.2 with ⟨_, r', e, _⟩ | h
    · exact absurd (show (⟨r, 0⟩ : Rst).peek = tStar by rw [e]; rfl) HS.out
    · exact h
  have c2 : W1.cell? ⟨A, 0, none⟩ = some (.int .i64 k) := by have := HG.out.2.1.1.1; rw [hk] at this; exact this
  have j3 : (k == 3) = false := by simpa using hk3
  clear hk hk3 hpk
  clear hr1 hg1
  go_wp2_with first | (go_at_call 42; refine (must_yes _).mono ?_; rintro _ w0 ⟨rfl, hw0⟩; obtain rfl := hw0.symm) | (go_at_call 156; refine (isSign_any x false H.out.2.2 _).mono ?_; rintro _ w0 ⟨rfl, hw0⟩; obtain rfl := hw0.symm) | fail
  refine (plainY_any x y W1 (by have := H.out.2.1.size; omega) HG.out.2.ends HR.out.2.1).mono ?_
  rintro e w3 ⟨rfl, hb3⟩
  have HG3 : Hid (w.grownBy w3 (some A) ∧ Rd A r w3) := ⟨HG.out.1.trans (grown_of_belowA hb3 _), HG.out.2.below hb3⟩
  clear hb3 c0 c1 c2 hW1
  go_wp2_with fail
  refine (signY_any A r tNear w3 HG3.out.2 kind_near (by decide) (by rw [HN.out]; rfl)).mono ?_
  rintro e w4 ⟨rfl, hr4, hg4⟩
  rw [HN.out, List.tail_cons] at hr4
  have HG4 : Hid (w.grownBy w4 (some A) ∧ Rd A r2 w4) := ⟨HG3.out.1.trans hg4, hr4⟩
  clear hr4 hg4
  go_wp2_with fail
  refine (take_as A r2 5 t r3 w4 HG4.out.2 (by rw [HR2.out]; exact HR.out.2.2.1.kind) (by rw [HR2.out]; rfl)).mono ?_
  rintro _ w5 ⟨rfl, hr5, hg5⟩
  obtain ⟨W5, hW5⟩ : ∃ W, w5.alloc (.cells #[.int .i64 5, .string t] 110) = W := ⟨_, rfl⟩
  have HG5 : Hid (w.grownBy W5 (some A) ∧ Rd A r3 W5) := by rw [← hW5]; exact ⟨grown_alloc (HG4.out.1.trans hg5) _, hr5.alloc _⟩
  have g0 : W5.cell? ⟨w5.heap.size, 0, none⟩ = some (.int .i64 5) := by rw [← hW5]; simp [go_sem]
  have g1 : W5.cell? ⟨w5.heap.size, 1, none⟩ = some (.string t) := by rw [← hW5]; simp [go_sem]
  clear hr5 hg5
  go_wp2_with first | (go_at_call 42; refine (must_yes _).mono ?_; rintro _ w0 ⟨rfl, hw0⟩; obtain rfl := hw0.symm) | fail
  refine (plainY_any t z W5 (by have := HR.out.2.2.1.size; omega) HG5.out.2.ends HR.out.2.2.2).mono ?_
  rintro e w6 ⟨rfl, hb6⟩
  have HG6 : Hid (w.grownBy w6 (some A) ∧ Rd A r3 w6) := ⟨HG5.out.1.trans (grown_of_belowA hb6 _), HG5.out.2.below hb6⟩
  clear hb6 g0 g1 hW5
  go_wp2
  go_ret
  exact Out.made HR.out.1 (grown_alloc (grown_alloc HG6.out.1 _) _) (MQ.boxAt (by simp) (by simp; have := HG6.out.2.lt; omega) 3 _ none none [y, z] .nil .nil (row_two y z HG6.out.2.lt) rfl rfl 3 rfl) ((HG6.out.2.alloc _).alloc _)
end Go.Proofs.YtjgdnainhoipgaaGreatDoor
namespace Go.Proofs.YtjgdnainhoipgaaGreatDoor
open Go.RowKit

/-- how much is left, as the memory tells it -/
def lenP (w : World) (A : Nat) : Nat := match w.cell? ⟨A, 0, none⟩, w.cell? ⟨A, 2, none⟩ with
  | some (.int _ k), some (.string t) => if k = 0 then 0 else ((pcs t.data.toList.length t.data.toList).getD []).length + 1
  | _, _ => 0
theorem kind_ne (x : ByteArray) : (kindT x).1 ≠ 0 := by
  unfold kindT
  split
  · decide
  · split
    · decide
    · split
      · decide
      · split <;> simp
theorem lenP_of {A : Nat} {l : List ByteArray} {w : World} (h : Rd A l w) : lenP w A = l.length := by
  obtain ⟨⟨⟨h1, _, t, h3, _, h5⟩, _⟩, _⟩ := h
  unfold lenP
  rw [h1, h3]
  simp only
  cases l with
  | nil => exact if_pos rfl
  | cons x r =>
    rw [if_neg (show ¬ (headP (x :: r)).1 = 0 from kind_ne x)]
    have : pcs t.data.toList.length t.data.toList = some r := h5
    rw [this]; rfl
/-- what is known of a world in a round -/
def RP (A : Nat) (w : World) (p : Option Addr) (q : Qy) (l : List ByteArray) (wx : World) : Prop := MQ A wx p q ∧ Rd A l wx ∧ w.grownBy wx (some A)
theorem RP.to {A : Nat} {w : World} {p : Option Addr} {q : Qy} {l l' : List ByteArray} {wx wy : World} (h : RP A w p q l wx) (ha : Rd A l' wy) (hg : wx.grownBy wy (some A)) : RP A w p q l' wy := ⟨MQ.grown hg q h.1, ha, h.2.2.trans hg⟩
theorem RP.box {A : Nat} {w : World} {p p' : Option Addr} {q q' : Qy} {l : List ByteArray} {wx : World} (h : RP A w p q l wx) (h' : MQ A wx p' q') (k : Int) (hk : farOf k = 0) :
    RP A w (some ⟨wx.heap.size, 0, none⟩) (.node k [] q q') l (wx.alloc (.cells #[.int .i64 k, .slice none 0 0, .int .i64 0, .pointer p, .pointer p'] 38)) :=
  ⟨MQ.box h.2.1.lt k _ p p' [] q q' (rowW_none A wx) h.1 h' 0 hk, h.2.1.alloc _, grown_alloc h.2.2 _⟩
theorem anyL_bad (all : Rst → Qy × Rst) (f : Nat) (q : Qy) (s : Rst) (h : s.bad ≠ 0) : anyL all f q s = (q, s) := by
  cases f with
  | zero => rfl
  | succ f => rw [anyL, take_no (by rw [peek_badQ h]; decide)]; rfl
theorem allL_bad (one : Rst → Qy × Rst) (f : Nat) (q : Qy) (s : Rst) (h : s.bad ≠ 0) : allL one f q s = (q, s) := by
  cases f with
  | zero => rfl
  | succ f => rw [allL, if_neg (by rw [peek_badQ h]; decide)]
theorem st_zero {s : Rst} (h : s.bad = 0) : ∃ l, s = ⟨l, 0⟩ := ⟨s.l, by cases s; simp only at h; rw [h]⟩
theorem nu_zero (l : List ByteArray) : (⟨l, 0⟩ : Rst).nu = l.length := rfl

set_option maxRecDepth 100000 in
set_option maxHeartbeats 4000000 in
theorem pany_any (one : Rst → Qy × Rst) (d : Int) (hO : PReads 75 (allM one) d) (hn : ∀ s, (one s).2.nu ≤ s.nu) : PReads 45 (anyM one) d := by
  intro A l w h
  have HO : Hid (PReads 75 (allM one) d) := hO
  have HN : Hid (∀ s, (allM one s).2.nu ≤ s.nu) := fun s => Nat.le_trans (nu_allM hn s) (hn s)
  have H : Hid (Rd A l w) := h
  clear hO hn h
  obtain ⟨R, hR⟩ : ∃ R, anyM one ⟨l, 0⟩ = R := ⟨_, rfl⟩
  have HR : Hid (anyL (allM one) (allM one ⟨l, 0⟩).2.nu (allM one ⟨l, 0⟩).1 (allM one ⟨l, 0⟩).2 = R) := hR
  rw [hR]
  clear hR
  obtain ⟨all, hall⟩ : ∃ g, allM one = g := ⟨_, rfl⟩
  rw [hall] at HO HN HR
  clear hall
  obtain ⟨q1, s1, hqs⟩ : ∃ q s, all ⟨l, 0⟩ = (q, s) := ⟨_, _, rfl⟩
  have HQ : Hid (all ⟨l, 0⟩ = (q1, s1)) := hqs
  rw [hqs] at HR
  clear hqs
  go_enter Tryz.func45, Tryz.ntmps45
  go_wp2_with fail
  refine (HO.out A l w H.out).mono ?_
  rintro e w1 ⟨hg1, hcase⟩
  rw [HQ.out] at hcase
  have HG1 : Hid (w.grownBy w1 (some A)) := hg1
  clear hg1 H
  rcases hcase with ⟨hb, p1, rfl, hq1, hr1⟩ | ⟨hb, rfl⟩
  · simp only at hb hq1 hr1
    obtain ⟨l1, rfl⟩ := st_zero hb
    have HE : Hid (RP A w p1 q1 l1 w1) := ⟨hq1, hr1, HG1.out⟩
    clear hb hq1 hr1 HG1 HQ
    go_wp2
    go_loopw [5] (fun v wr => ∃ (p : Option Addr) (q : Qy) (l : List ByteArray) (f : Nat), v = .pointer p ∧ Hid (RP A w p q l wr) ∧ Hid (anyL all f q ⟨l, 0⟩ = R ∧ l.length ≤ f)) (fun _ wr => lenP wr A)
    case atStart => exact ⟨p1, q1, l1, l1.length, rfl, HE, HR.out, Nat.le_refl _⟩
    case round =>
      clear HE HR
      obtain ⟨p, q, l, f, rfl, HE, hz⟩ := hrel
      have hmu := lenP_of HE.out.2.1
      by_cases hg : (⟨l, 0⟩ : Rst).peek = tOr
      · obtain ⟨_, l2, hl2⟩ := peek_some (s := ⟨l, 0⟩) (by rw [hg]; decide)
        rw [hg] at hl2
        simp only at hl2
        obtain ⟨f', rfl⟩ : ∃ f', f = f' + 1 := by
          cases f with
          | zero => have := hz.out.2; rw [hl2] at this; simp at this
          | succ f => exact ⟨f, rfl⟩
        have ht : (⟨l, 0⟩ : Rst).take tOr = (true, ⟨l2, 0⟩) := by rw [take_yes hg, hl2]; rfl
        obtain ⟨q4, s4, hqs⟩ : ∃ q s, all ⟨l2, 0⟩ = (q, s) := ⟨_, _, rfl⟩
        have HZ2 : Hid (anyL all f' (.node 5 [] q q4) s4 = R) := by
          have h0 := hz.out.1
          rw [anyL, ht] at h0
          simp only [if_true] at h0
          rw [hqs] at h0
          exact h0
        have hnf : l2.length + 1 ≤ f' + 1 := by have := hz.out.2; rw [hl2] at this; exact this
        have hll : l.length = l2.length + 1 := by rw [hl2]; rfl
        have hlt2 : s4.nu ≤ l2.length := by have := HN.out ⟨l2, 0⟩; rw [hqs] at this; exact this
        have HT : Hid ((⟨l, 0⟩ : Rst).peek = tOr ∧ l.tail = l2 ∧ all ⟨l2, 0⟩ = (q4, s4)) := ⟨hg, by rw [hl2]; rfl, hqs⟩
        clear hz hg ht hl2 hqs
        go_wp2_with fail
        refine (signY_any A l tOr wr HE.out.2.1 kind_or (by decide) HT.out.1).mono ?_
        rintro _ w3 ⟨rfl, ha3, hg3⟩
        rw [HT.out.2.1] at ha3
        have HE3 : Hid (RP A w p q l2 w3) := RP.to HE.out ha3 hg3
        clear ha3 hg3 HE
        go_wp2_with fail
        refine (HO.out A l2 w3 HE3.out.2.1).mono ?_
        rintro e w4 ⟨hg4, hcase⟩
        rw [HT.out.2.2] at hcase
        rcases hcase with ⟨hb, p4, rfl, hq4, hr4⟩ | ⟨hb, rfl⟩
        · simp only at hb hq4 hr4
          obtain ⟨l4, rfl⟩ := st_zero hb
          have HE5 : Hid (RP A w (some ⟨w4.heap.size, 0, none⟩) (.node 5 [] q q4) l4 (w4.alloc (.cells #[.int .i64 5, .slice none 0 0, .int .i64 0, .pointer p, .pointer p4] 38))) := (RP.to HE3.out hr4 hg4).box hq4 5 rfl
          rw [nu_zero] at hlt2
          clear hb hq4 hr4 hg4 HE3 HT
          go_wp2
          go_roundw
          case rel => exact ⟨_, _, l4, f', rfl, HE5, HZ2.out, by omega⟩
          case measure => rw [hmu, lenP_of HE5.out.2.1]; omega
        · simp only at hb
          have HB : Hid (R.2.bad = s4.bad ∧ s4.bad ≠ 0 ∧ w.grownBy w4 (some A)) := ⟨by rw [← HZ2.out, anyL_bad _ _ _ _ hb], hb, HE3.out.2.2.trans hg4⟩
          clear hb hg4 HE3 HT HZ2
          go_wp2
          exact ⟨rfl, Out.thrown HB.out.1 HB.out.2.1 HB.out.2.2⟩
      · have e : (q, (⟨l, 0⟩ : Rst)) = R := by
          rw [← hz.out.1]
          cases f with
          | zero => rfl
          | succ f => rw [anyL, take_no hg]; rfl
        subst e
        have HG : Hid ((⟨l, 0⟩ : Rst).peek ≠ tOr) := hg
        clear hz hg
        go_wp2_with fail
        refine (signN_any A l tOr wr HE.out.2.1 kind_or (by decide) HG.out).mono ?_
        rintro _ w3 ⟨rfl, ha3, hg3⟩
        have HE3 : Hid (RP A w p q l w3) := RP.to HE.out ha3 hg3
        clear ha3 hg3 HE
        go_wp2
        go_ret
        exact Out.made rfl HE3.out.2.2 HE3.out.1 HE3.out.2.1
  · simp only at hb
    have HB : Hid (R.2.bad = s1.bad ∧ s1.bad ≠ 0) := ⟨by rw [← HR.out, anyL_bad _ _ _ _ hb], hb⟩
    clear hb HR
    go_wp2
    exact ⟨rfl, Out.thrown HB.out.1 HB.out.2 HG1.out⟩
end Go.Proofs.YtjgdnainhoipgaaGreatDoor
namespace Go.Proofs.YtjgdnainhoipgaaGreatDoor
open Go.RowKit

/-- whether more follows -/
theorem head_goes {l : List ByteArray} (hg : ∀ x ∈ l.head?, Good x) : (∃ x, headP l = (0, x) ∧ goes (⟨l, 0⟩ : Rst).peek = false) ∨ (∃ x, headP l = (2, x) ∧ goes (⟨l, 0⟩ : Rst).peek = false) ∨ (headP l = (5, tOr) ∧ goes (⟨l, 0⟩ : Rst).peek = false) ∨ (∃ k x, headP l = (k, x) ∧ k ≠ 0 ∧ k ≠ 2 ∧ (decide (k = 5) && decide (x = tOr)) = false ∧ goes (⟨l, 0⟩ : Rst).peek = true) := by
  cases l with
  | nil => exact .inl ⟨_, rfl, rfl⟩
  | cons y r =>
    have hp : (⟨y :: r, 0⟩ : Rst).peek = y := rfl
    rw [hp]
    have hy : Good y := hg y rfl
    cases hy with
    | opens => exact .inr (.inr (.inr ⟨1, _, rfl, by decide, by decide, by rfl, by rfl⟩))
    | shuts => exact .inr (.inl ⟨_, rfl, by rfl⟩)
    | star => exact .inr (.inr (.inr ⟨3, _, rfl, by decide, by decide, by rfl, by rfl⟩))
    | quoted r' _ =>
      refine .inr (.inr (.inr ⟨4, _, kind_quoted r', by decide, by decide, by rfl, ?_⟩))
      unfold goes
      rw [decide_eq_false (mk_none 34 r'), decide_eq_false (show ¬ _ = tShut from mk_ne (by decide)), decide_eq_false (show ¬ _ = tOr from fun e => by have := congrArg firstB e; rw [first_mk] at this; exact absurd this (by decide))]
      rfl
    | run c r' h1 h =>
      have hR : RunP ⟨(c :: r').toArray⟩ := ⟨c, r', rfl, h1, h⟩
      by_cases ho : (⟨(c :: r').toArray⟩ : ByteArray) = tOr
      · rw [ho]
        exact .inr (.inr (.inl ⟨rfl, by decide⟩))
      · refine .inr (.inr (.inr ⟨5, _, hR.kind, by decide, by decide, by rw [decide_eq_false ho]; rfl, ?_⟩))
        unfold goes
        rw [decide_eq_false hR.some, decide_eq_false (show ¬ _ = tShut from hR.ne 41 (by decide)), decide_eq_false ho]
        rfl

set_option maxRecDepth 100000 in
set_option maxHeartbeats 8000000 in
theorem pall_any (one : Rst → Qy × Rst) (d : Int) (hO : PReads 117 one d) (hn : ∀ s, (one s).2.nu ≤ s.nu ∧ (s.peek ≠ tNone → (one s).2.nu < s.nu)) : PReads 75 (allM one) d := by
  intro A l w h
  have HO : Hid (PReads 117 one d) := hO
  have HN : Hid (∀ s, (one s).2.nu ≤ s.nu ∧ (s.peek ≠ tNone → (one s).2.nu < s.nu)) := hn
  have H : Hid (Rd A l w) := h
  clear hO hn h
  obtain ⟨R, hR⟩ : ∃ R, allM one ⟨l, 0⟩ = R := ⟨_, rfl⟩
  have HR : Hid (allL one (one ⟨l, 0⟩).2.nu (one ⟨l, 0⟩).1 (one ⟨l, 0⟩).2 = R) := hR
  rw [hR]
  clear hR
  obtain ⟨q1, s1, hqs⟩ : ∃ q s, one ⟨l, 0⟩ = (q, s) := ⟨_, _, rfl⟩
  have HQ : Hid (one ⟨l, 0⟩ = (q1, s1)) := hqs
  rw [hqs] at HR
  clear hqs
  go_enter Tryz.func75, Tryz.ntmps75
  go_wp2_with fail
  refine (HO.out A l w H.out).mono ?_
  rintro e w1 ⟨hg1, hcase⟩
  rw [HQ.out] at hcase
  have HG1 : Hid (w.grownBy w1 (some A)) := hg1
  clear hg1 H
  rcases hcase with ⟨hb, p1, rfl, hq1, hr1⟩ | ⟨hb, rfl⟩
  · simp only at hb hq1 hr1
    obtain ⟨l1, rfl⟩ := st_zero hb
    have HE : Hid (RP A w p1 q1 l1 w1) := ⟨hq1, hr1, HG1.out⟩
    clear hb hq1 hr1 HG1 HQ
    go_wp2_with fail
    go_loopw [5] (fun v wr => ∃ (p : Option Addr) (q : Qy) (l : List ByteArray) (f : Nat), v = .pointer p ∧ Hid (RP A w p q l wr) ∧ Hid (allL one f q ⟨l, 0⟩ = R ∧ l.length ≤ f)) (fun _ wr => lenP wr A)
    case atStart => exact ⟨p1, q1, l1, l1.length, rfl, HE, HR.out, Nat.le_refl _⟩
    case round =>
      clear HE HR
      obtain ⟨p, q, l, f, rfl, HE, hz⟩ := hrel
      have hmu := lenP_of HE.out.2.1
      obtain ⟨⟨⟨c0, c1, _⟩, _⟩, hgood⟩ := HE.out.2.1
      rcases head_goes hgood with ⟨x, hx, hgo⟩ | ⟨x, hx, hgo⟩ | ⟨hx, hgo⟩ | ⟨k, x, hx, hk0, hk2, his, hgo⟩
      · rw [hx] at c0 c1
        clear hx hgood
        have e : (q, (⟨l, 0⟩ : Rst)) = R := by
          rw [← hz.out.1]
          cases f with
          | zero => rfl
          | succ f => rw [allL, if_neg (by rw [hgo]; decide)]
        clear hz hgo
        subst e
        go_wp2
        go_ret
        exact Out.made rfl HE.out.2.2 HE.out.1 HE.out.2.1
      · rw [hx] at c0 c1
        clear hx hgood
        have e : (q, (⟨l, 0⟩ : Rst)) = R := by
          rw [← hz.out.1]
          cases f with
          | zero => rfl
          | succ f => rw [allL, if_neg (by rw [hgo]; decide)]
        clear hz hgo
        subst e
        go_wp2
        go_ret
        exact Out.made rfl HE.out.2.2 HE.out.1 HE.out.2.1
      · rw [hx] at c0 c1
        clear hx hgood
        have e : (q, (⟨l, 0⟩ : Rst)) = R := by
          rw [← hz.out.1]
          cases f with
          | zero => rfl
          | succ f => rw [allL, if_neg (by rw [hgo]; decide)]
        clear hz hgo
        subst e
        go_wp2_with fail
        refine (isP_any 5 tOr tOr true (by decide) wr).mono ?_
        rintro _ w3 ⟨rfl, hb3⟩
        have HE3 : Hid (RP A w p q l w3) := RP.to HE.out (HE.out.2.1.below hb3) (grown_of_belowA hb3 _)
        clear hb3 c0 c1 HE
        go_wp2
        go_ret
        exact Out.made rfl HE3.out.2.2 HE3.out.1 HE3.out.2.1
      · rw [hx] at c0 c1
        have j0 : (k != 0) = true := by simpa using hk0
        have j2 : (k != 2) = true := by simpa using hk2
        have HIS : Hid ((decide (k = 5) && decide (x = tOr)) = false) := his
        have hpn : (⟨l, 0⟩ : Rst).peek ≠ tNone := fun e => by rw [e] at hgo; exact absurd hgo (by decide)
        obtain ⟨_, l0, hl0⟩ := peek_some (s := ⟨l, 0⟩) hpn
        simp only at hl0
        have hlen : l.length = l0.length + 1 := by rw [hl0]; rfl
        obtain ⟨f', rfl⟩ : ∃ f', f = f' + 1 := by
          cases f with
          | zero => have := hz.out.2; omega
          | succ f => exact ⟨f, rfl⟩
        have hz1 := hz.out.1
        have hnf := hz.out.2
        rw [allL, if_pos hgo] at hz1
        have HZ1 : Hid (allL one f' (.node (if ((⟨l, 0⟩ : Rst).take tNot).1 = true then 6 else 4) [] q (one (if ((⟨l, 0⟩ : Rst).take tNot).1 = true then ((⟨l, 0⟩ : Rst).take tNot).2 else (((⟨l, 0⟩ : Rst).take tNot).2.take tAnd).2)).1) (one (if ((⟨l, 0⟩ : Rst).take tNot).1 = true then ((⟨l, 0⟩ : Rst).take tNot).2 else (((⟨l, 0⟩ : Rst).take tNot).2.take tAnd).2)).2 = R) := hz1
        have HL0 : Hid (l.tail = l0 ∧ (⟨l, 0⟩ : Rst).peek ≠ tNone) := ⟨by rw [hl0]; rfl, hpn⟩
        clear hx hgood hk0 hk2 his hgo hz hz1 hl0 hpn
        go_wp2_with fail
        refine (isP_any k x tOr false HIS.out wr).mono ?_
        rintro _ w2 ⟨rfl, hb2⟩
        have HE2 : Hid (RP A w p q l w2) := RP.to HE.out (HE.out.2.1.below hb2) (grown_of_belowA hb2 _)
        clear hb2 c0 c1 HE
        by_cases hnot : (⟨l, 0⟩ : Rst).peek = tNot
        · obtain ⟨q4, s4, hqs⟩ : ∃ q s, one ⟨l0, 0⟩ = (q, s) := ⟨_, _, rfl⟩
          have HZ2 : Hid (allL one f' (.node 6 [] q q4) s4 = R) := by
            have h0 := HZ1.out
            rw [take_yes hnot] at h0
            simp only [if_true] at h0
            rw [HL0.out.1, hqs] at h0
            exact h0
          have hlt2 : s4.nu ≤ l0.length := by have := (HN.out ⟨l0, 0⟩).1; rw [hqs] at this; exact this
          have HT : Hid (one ⟨l0, 0⟩ = (q4, s4)) := hqs
          have HP : Hid ((⟨l, 0⟩ : Rst).peek = tNot) := hnot
          clear hqs hnot HZ1
          go_wp2_with fail
          refine (signY_any A l tNot w2 HE2.out.2.1 kind_not (by decide) HP.out).mono ?_
          rintro _ w3 ⟨rfl, ha3, hg3⟩
          rw [HL0.out.1] at ha3
          have HE3 : Hid (RP A w p q l0 w3) := RP.to HE2.out ha3 hg3
          clear ha3 hg3 HE2
          go_wp2_with fail
          refine (HO.out A l0 w3 HE3.out.2.1).mono ?_
          rintro e w5 ⟨hg5, hcase⟩
          rw [HT.out] at hcase
          rcases hcase with ⟨hb, p5, rfl, hq5, hr5⟩ | ⟨hb, rfl⟩
          · simp only at hb hq5 hr5
            obtain ⟨l5, rfl⟩ := st_zero hb
            have HE5 : Hid (RP A w (some ⟨w5.heap.size, 0, none⟩) (.node 6 [] q q4) l5 (w5.alloc (.cells #[.int .i64 6, .slice none 0 0, .int .i64 0, .pointer p, .pointer p5] 38))) := (RP.to HE3.out hr5 hg5).box hq5 6 rfl
            rw [nu_zero] at hlt2
            clear hb hq5 hr5 hg5 HE3 HT
            go_wp2
            go_roundw
            case rel => exact ⟨_, _, l5, f', rfl, HE5, HZ2.out, by omega⟩
            case measure => rw [hmu, lenP_of HE5.out.2.1]; omega
          · simp only at hb
            have HB : Hid (R.2.bad = s4.bad ∧ s4.bad ≠ 0 ∧ w.grownBy w5 (some A)) := ⟨by rw [← HZ2.out, allL_bad _ _ _ _ hb], hb, HE3.out.2.2.trans hg5⟩
            clear hb hg5 HE3 HT HZ2
            go_wp2
            exact ⟨rfl, Out.thrown HB.out.1 HB.out.2.1 HB.out.2.2⟩
        · by_cases hand : (⟨l, 0⟩ : Rst).peek = tAnd
          · obtain ⟨q4, s4, hqs⟩ : ∃ q s, one ⟨l0, 0⟩ = (q, s) := ⟨_, _, rfl⟩
            have HZ2 : Hid (allL one f' (.node 4 [] q q4) s4 = R) := by
              have h0 := HZ1.out
              rw [take_no hnot] at h0
              simp only [Bool.false_eq_true, if_false] at h0
              rw [take_yes hand] at h0
              simp only at h0
              rw [HL0.out.1, hqs] at h0
              exact h0
            have hlt2 : s4.nu ≤ l0.length := by have := (HN.out ⟨l0, 0⟩).1; rw [hqs] at this; exact this
            have HT : Hid (one ⟨l0, 0⟩ = (q4, s4)) := hqs
            have HP : Hid ((⟨l, 0⟩ : Rst).peek ≠ tNot ∧ (⟨l, 0⟩ : Rst).peek = tAnd) := ⟨hnot, hand⟩
            clear hqs hnot hand HZ1
            go_wp2_with fail
            refine (signN_any A l tNot w2 HE2.out.2.1 kind_not (by decide) HP.out.1).mono ?_
            rintro _ w3 ⟨rfl, ha3, hg3⟩
            have HE2b : Hid (RP A w p q l w3) := RP.to HE2.out ha3 hg3
            clear ha3 hg3 HE2
            go_wp2_with fail
            refine (signY_any A l tAnd w3 HE2b.out.2.1 kind_and (by decide) HP.out.2).mono ?_
            rintro _ w4 ⟨rfl, ha4, hg4⟩
            rw [HL0.out.1] at ha4
            have HE3 : Hid (RP A w p q l0 w4) := RP.to HE2b.out ha4 hg4
            clear ha4 hg4 HE2b
            go_wp2_with fail
            refine (HO.out A l0 w4 HE3.out.2.1).mono ?_
            rintro e w5 ⟨hg5, hcase⟩
            rw [HT.out] at hcase
            rcases hcase with ⟨hb, p5, rfl, hq5, hr5⟩ | ⟨hb, rfl⟩
            · simp only at hb hq5 hr5
              obtain ⟨l5, rfl⟩ := st_zero hb
              have HE5 : Hid (RP A w (some ⟨w5.heap.size, 0, none⟩) (.node 4 [] q q4) l5 (w5.alloc (.cells #[.int .i64 4, .slice none 0 0, .int .i64 0, .pointer p, .pointer p5] 38))) := (RP.to HE3.out hr5 hg5).box hq5 4 rfl
              rw [nu_zero] at hlt2
              clear hb hq5 hr5 hg5 HE3 HT
              go_wp2
              go_roundw
              case rel => exact ⟨_, _, l5, f', rfl, HE5, HZ2.out, by omega⟩
              case measure => rw [hmu, lenP_of HE5.out.2.1]; omega
            · simp only at hb
              have HB : Hid (R.2.bad = s4.bad ∧ s4.bad ≠ 0 ∧ w.grownBy w5 (some A)) := ⟨by rw [← HZ2.out, allL_bad _ _ _ _ hb], hb, HE3.out.2.2.trans hg5⟩
              clear hb hg5 HE3 HT HZ2
              go_wp2
              exact ⟨rfl, Out.thrown HB.out.1 HB.out.2.1 HB.out.2.2⟩
          · obtain ⟨q4, s4, hqs⟩ : ∃ q s, one ⟨l, 0⟩ = (q, s) := ⟨_, _, rfl⟩
            have HZ2 : Hid (allL one f' (.node 4 [] q q4) s4 = R) := by
              have h0 := HZ1.out
              rw [take_no hnot] at h0
              simp only [Bool.false_eq_true, if_false] at h0
              rw [take_no hand] at h0
              simp only at h0
              rw [hqs] at h0
              exact h0
            have hlt2 : s4.nu ≤ l0.length := by have := (HN.out ⟨l, 0⟩).2 HL0.out.2; rw [hqs, nu_zero] at this; simp only at this; omega
            have HT : Hid (one ⟨l, 0⟩ = (q4, s4)) := hqs
            have HP : Hid ((⟨l, 0⟩ : Rst).peek ≠ tNot ∧ (⟨l, 0⟩ : Rst).peek ≠ tAnd) := ⟨hnot, hand⟩
            clear hqs hnot hand HZ1
            go_wp2_with fail
            refine (signN_any A l tNot w2 HE2.out.2.1 kind_not (by decide) HP.out.1).mono ?_
            rintro _ w3 ⟨rfl, ha3, hg3⟩
            have HE2b : Hid (RP A w p q l w3) := RP.to HE2.out ha3 hg3
            clear ha3 hg3 HE2
            go_wp2_with fail
            refine (signN_any A l tAnd w3 HE2b.out.2.1 kind_and (by decide) HP.out.2).mono ?_
            rintro _ w4 ⟨rfl, ha4, hg4⟩
            have HE3 : Hid (RP A w p q l w4) := RP.to HE2b.out ha4 hg4
            clear ha4 hg4 HE2b
            go_wp2_with fail
            refine (HO.out A l w4 HE3.out.2.1).mono ?_
            rintro e w5 ⟨hg5, hcase⟩
            rw [HT.out] at hcase
            rcases hcase with ⟨hb, p5, rfl, hq5, hr5⟩ | ⟨hb, rfl⟩
            · simp only at hb hq5 hr5
              obtain ⟨l5, rfl⟩ := st_zero hb
              have HE5 : Hid (RP A w (some ⟨w5.heap.size, 0, none⟩) (.node 4 [] q q4) l5 (w5.alloc (.cells #[.int .i64 4, .slice none 0 0, .int .i64 0, .pointer p, .pointer p5] 38))) := (RP.to HE3.out hr5 hg5).box hq5 4 rfl
              rw [nu_zero] at hlt2
              clear hb hq5 hr5 hg5 HE3 HT
              go_wp2
              go_roundw
              case rel => exact ⟨_, _, l5, f', rfl, HE5, HZ2.out, by omega⟩
              case measure => rw [hmu, lenP_of HE5.out.2.1]; omega
            · simp only at hb
              have HB : Hid (R.2.bad = s4.bad ∧ s4.bad ≠ 0 ∧ w.grownBy w5 (some A)) := ⟨by rw [← HZ2.out, allL_bad _ _ _ _ hb], hb, HE3.out.2.2.trans hg5⟩
              clear hb hg5 HE3 HT HZ2
              go_wp2
              exact ⟨rfl, Out.thrown HB.out.1 HB.out.2.1 HB.out.2.2⟩
  · simp only at hb
    have HB : Hid (R.2.bad = s1.bad ∧ s1.bad ≠ 0) := ⟨by rw [← HR.out, allL_bad _ _ _ _ hb], hb⟩
    clear hb HR
    go_wp2
    exact ⟨rfl, Out.thrown HB.out.1 HB.out.2 HG1.out⟩
end Go.Proofs.YtjgdnainhoipgaaGreatDoor
namespace Go.Proofs.YtjgdnainhoipgaaGreatDoor
open Go.RowKit

theorem pcs_good (f : Nat) : ∀ l L, l.length ≤ 400 → pcs f l = some L → ∀ x ∈ L, Good x := by
  induction f with
  | zero => intro l L _ h x hx; cases h; cases hx
  | succ f ih =>
    have key : ∀ (y : ByteArray) (o : Option (List ByteArray)) (L : List ByteArray), Good y → (∀ M, o = some M → ∀ x ∈ M, Good x) → o.map (y :: ·) = some L → ∀ x ∈ L, Good x := by
      intro y o L hy ho h x hx
      obtain ⟨M, rfl, h'⟩ := map_cons h
      rcases List.mem_cons.1 hx with rfl | hx
      · exact hy
      · exact ho M h' x hx
    intro l L hl h
    cases l with
    | nil => cases h; intro x hx; cases hx
    | cons c l =>
      simp only [List.length_cons] at hl
      rw [pcs] at h
      split at h
      · exact ih l L (by omega) h
      · rename_i h1
        split at h
        · rename_i h2
          refine key _ _ _ ?_ (fun M hM => ih l M (by omega) hM) h
          rcases h2 with h2 | h2 | h2
          · rw [show c = 40 from UInt8.toNat_inj.1 h2]; exact .opens
          · rw [show c = 41 from UInt8.toNat_inj.1 h2]; exact .shuts
          · rw [show c = 42 from UInt8.toNat_inj.1 h2]; exact .star
        · rename_i h2
          split at h
          · rename_i h3
            split at h
            · cases h
            · refine key _ _ _ ?_ (fun M hM => ih _ M (by rw [List.length_drop]; omega) hM) h
              rw [show c = 34 from UInt8.toNat_inj.1 h3]
              have := (List.takeWhile_sublist notQ (l := l)).length_le
              exact .quoted _ (by omega)
          · rename_i h3
            refine key _ _ _ ?_ (fun M hM => ih _ M (by rw [List.length_drop]; omega) hM) h
            have := (List.takeWhile_sublist notC (l := l)).length_le
            refine .run c _ (by omega) ?_
            intro d hd
            rcases List.mem_cons.1 hd with rfl | hd
            · exact notC_of h1 h2 h3
            · have h4 := List.all_takeWhile (p := notC) (l := l)
              rw [List.all_eq_true] at h4
              exact h4 d hd
theorem Rd.good {A : Nat} {y : ByteArray} {r : List ByteArray} {w : World} (h : Rd A (y :: r) w) : ∀ x ∈ r, Good x := by
  obtain ⟨⟨⟨_, _, t, _, h4, h5⟩, _⟩, _⟩ := h
  exact pcs_good _ _ _ (by rw [ba_len]; exact h4) h5

theorem pone_any (any : Rst → Qy × Rst) (d : Int) (hd0 : 0 ≤ d) (hd : ¬ 12 < d) (hO : PReads 45 any (d + 1)) : PReads 117 (oneM any false) d := by
  intro A l w h
  cases l with
  | nil => exact pone_bad A d [] 0 _ w _ h hd rfl (by decide) (by decide) (by decide) rfl
  | cons y r =>
    have hy : Good y := h.2 y rfl
    cases hy with
    | opens => exact pone_open any A d r w h hd0 hd hO
    | shuts => exact pone_bad A d _ 2 _ w _ h hd rfl (by decide) (by decide) (by decide) rfl
    | star => exact pone_bad A d _ 3 _ w _ h hd rfl (by decide) (by decide) (by decide) rfl
    | quoted q hq => exact pone_quote any A d q r w h hq hd
    | run c m h1 h2 =>
      have hR : RunP ⟨(c :: m).toArray⟩ := ⟨c, m, rfl, h1, h2⟩
      generalize (⟨(c :: m).toArray⟩ : ByteArray) = x at *
      cases hs : signT x with
      | true => exact pone_sign A d (x :: r) x w _ h hd hR.kind hs (oneM_sign any hR r hs)
      | false =>
        have e := oneM_run any hR r hs
        by_cases hst : (⟨r, 0⟩ : Rst).peek = tStar
        · rw [if_pos hst, begins_is] at e
          obtain ⟨_, r2, hr2⟩ := peek_some (s := ⟨r, 0⟩) (by rw [hst]; decide)
          rw [hst] at hr2
          simp only at hr2
          rw [hr2, List.tail_cons] at e
          exact pone_star A d x r w _ h hd hR hs r2 hr2 (by rw [← e, hr2])
        · rw [if_neg hst] at e
          by_cases hw : (wordsL x.data.toList).length = 1
          · obtain ⟨y, hy⟩ := List.length_eq_one_iff.1 hw
            by_cases hn : (⟨r, 0⟩ : Rst).peek = tNear
            · obtain ⟨_, r2, hr2⟩ := peek_some (s := ⟨r, 0⟩) (by rw [hn]; decide)
              rw [hn] at hr2
              simp only at hr2
              have hg : ∀ z ∈ r2.head?, Good z := fun z hz => h.good z (by rw [hr2]; exact List.mem_cons_of_mem _ (List.mem_of_mem_head? hz))
              rcases head_run hg with ⟨t, r3, hr3, ht⟩ | ⟨k, z, hk, hz, hb⟩
              · by_cases hw2 : (wordsL t.data.toList).length = 1
                · obtain ⟨z, hz⟩ := List.length_eq_one_iff.1 hw2
                  exact pone_nearyes A d x r w _ h hd hR hs r2 hr2 t r3 hr3 ht y z hy hz (by rw [e, hr2, hr3]; exact near4 hy ht hz)
                · exact pone_nearno A d x r w _ h hd hR hs r2 hr2 t r3 hr3 ht y hy hw2 (by rw [e, hr2, hr3]; exact near3 hy ht hw2)
              · exact pone_nearbad A d x r w _ h hd hR hs r2 hr2 y hy k z hk hz (by rw [e, hr2]; exact near2 hy hb)
            · exact pone_word A d x r w _ h hd hR hs hst y hy hn (by rw [e]; exact near1 hy hn)
          · exact pone_noplain A d x r w _ h hd hR hs hst hw (by rw [e]; exact near0 hw)
theorem pone_at (m : Nat) : m ≤ 13 → PReads 117 (oneAt m) (13 - (m : Int)) := by
  induction m with
  | zero => intro _ A l w h; exact pone_over A _ w _ (by decide) rfl
  | succ m ih =>
    intro hm
    refine pone_any (anyM (oneAt m)) _ (by omega) (by omega) ?_
    have e : (13 : Int) - ((m + 1 : Nat) : Int) + 1 = 13 - (m : Int) := by omega
    rw [e]
    exact pany_any (oneAt m) _ (pall_any (oneAt m) _ (ih (by omega)) (nu_oneAt m)) (fun s => (nu_oneAt m s).1)
theorem pany_top : PReads 45 (anyM (oneAt 13)) 0 := pany_any (oneAt 13) _ (pall_any (oneAt 13) _ (pone_at 13 (Nat.le_refl _)) (nu_oneAt 13)) (fun s => (nu_oneAt 13 s).1)

/-- what read tells -/
def ReadTo (s : ByteArray) (w : World) (e : Ending) (w' : World) : Prop :=
  ((askS s).2 = 0 ∧ (∃ p A, e = .returned (.pointer p) ∧ w.heap.size ≤ A ∧ MQ A w' p (askS s).1) ∨ (askS s).2 ≠ 0 ∧ (askS s).1 = .nil ∧ e = .panicked [{ v := .iface 104 (.agg #[.int .i64 (askS s).2]), recovered := false }]) ∧ Below w.heap.size w w'
theorem EndsAt.lt {w : World} (h : EndsAt w) : 0 < w.heap.size := by
  have := h.1
  by_cases hh : 0 < w.heap.size
  · exact hh
  · rw [World.cell?] at this
    simp [Array.getElem?_eq_none (Nat.le_of_not_lt hh)] at this
theorem rd_new {w : World} {s : ByteArray} {L : List ByteArray} (he : EndsAt w) (hs : s.size ≤ 400) (hc : Cuts s.data.toList L) : Rd0 w.heap.size 0 ⟨#[]⟩ L (w.alloc (.cells #[.int .i64 0, .string ⟨#[]⟩, .string s] 112)) := by
  have hn := heap_alloc_new w (.cells #[.int .i64 0, .string ⟨#[]⟩, .string s] 112)
  refine ⟨⟨by simp, by simp, s, by simp, hs, hc⟩, ⟨?_, ?_, ?_⟩, by simp, he.lt, he.below ((Below.refl _ _).alloc (Nat.le_refl _) _)⟩
  all_goals (simp only [World.frozen?, hn]; simp)
set_option maxRecDepth 100000 in
set_option maxHeartbeats 4000000 in
theorem readQ_any (s : ByteArray) (w : World) (hs : s.size ≤ 400) (he : EndsAt w) : Calls Tryz.prog 21 #[.string s] w fun e w' => ReadTo s w e w' := by
  have HE : Hid (EndsAt w) := he
  obtain ⟨n, hn⟩ : ∃ n, Lib.countByte s.data.toList 34 = n := ⟨_, rfl⟩
  have HN : Hid (Lib.countByte s.data.toList 34 = n) := hn
  have hodd := pcs_odd s.data.toList.length s.data.toList (Nat.le_refl _)
  have hpa := pcs_at s s.size 0
  rw [List.drop_zero] at hpa
  rw [ba_len, ← hpa, show s.data.toList.count 34 = n from hn] at hodd
  have hle : n ≤ 400 := by
    rw [← hn]
    have := List.count_le_length (a := (34 : UInt8)) (l := s.data.toList)
    rw [ba_len] at this
    exact Nat.le_trans this hs
  cases hp : piecesM s s.size 0 with
  | none =>
    have hn1 : n % 2 = 1 := hodd.1 hp
    have HA : Hid (askS s = (.nil, 3)) := askS_none hp
    have d1 : ((n : Int) % 2 == 0) = false := by simp; omega
    clear hp hodd hpa hn he
    go_enter Tryz.func21, Tryz.ntmps21
    go_wp2_with first | (go_at_call 43; refine (count_any s _).mono ?_; rintro _ w0 ⟨rfl, hw0⟩; obtain rfl := hw0.symm; rw [HN.out]) | (go_at_call 42; refine (must_no _).mono ?_; rintro _ w0 ⟨rfl, hw0⟩; obtain rfl := hw0.symm)
    refine ⟨rfl, .inr ⟨by rw [HA.out]; decide, by rw [HA.out], by rw [HA.out]⟩, Below.refl _ _⟩
  | some L =>
    have hn0 : n % 2 = 0 := by
      have : ¬ n % 2 = 1 := fun e => by have := hodd.2 e; rw [hp] at this; cases this
      omega
    have d1 : ((n : Int) % 2 == 0) = true := by simp; omega
    obtain ⟨q, s2, hqs⟩ : ∃ q s, anyM (oneAt 13) ⟨L, 0⟩ = (q, s) := ⟨_, _, rfl⟩
    have HQ : Hid (anyM (oneAt 13) ⟨L, 0⟩ = (q, s2)) := hqs
    have HC : Hid (Cuts s.data.toList L) := by
      show pcs _ _ = _
      rw [ba_len, ← hpa, hp]
    have HA : Hid (∀ s3, (if s2.l = [] then s2 else s2.fails 3) = s3 → askS s = (if s3.bad = 0 then q else .nil, s3.bad)) := fun s3 e => by
      rw [askS_some hp]
      unfold askM
      rw [hqs]
      simp only
      rw [e]
    have HTop : Hid (PReads 45 (anyM (oneAt 13)) 0) := pany_top
    clear hp hodd hpa hn he hqs
    go_enter Tryz.func21, Tryz.ntmps21
    go_wp2_with first | (go_at_call 43; refine (count_any s _).mono ?_; rintro _ w0 ⟨rfl, hw0⟩; obtain rfl := hw0.symm; rw [HN.out]) | (go_at_call 42; refine (must_yes _).mono ?_; rintro _ w0 ⟨rfl, hw0⟩; obtain rfl := hw0.symm) | fail
    refine (take0_any w.heap.size 0 ⟨#[]⟩ L _ (rd_new HE.out hs HC.out)).mono ?_
    rintro _ w1 ⟨rfl, hr1, hg1⟩
    have HB1 : Hid (Below w.heap.size w w1 ∧ w.heap.size ≤ w1.heap.size) := ⟨((Below.refl w.heap.size w).alloc (Nat.le_refl _) _).trans (grown_below hg1 _ (Nat.le_refl _) (by simp)), by have := hg1.size; simp at this; omega⟩
    have H1 : Hid (Rd w.heap.size L w1) := hr1
    clear hr1 hg1
    go_wp2_with fail
    refine (HTop.out w.heap.size L w1 H1.out).mono ?_
    rintro e w2 ⟨hg2, hcase⟩
    rw [HQ.out] at hcase
    have HB2 : Hid (Below w.heap.size w w2) := HB1.out.1.trans (grown_below hg2 _ (Nat.le_refl _) HB1.out.2)
    clear hg2 H1 HB1
    rcases hcase with ⟨hb, p, rfl, hq, hrd⟩ | ⟨hb, rfl⟩
    · simp only at hb hq hrd
      obtain ⟨l2, rfl⟩ := st_zero hb
      have HM : Hid (MQ w.heap.size w2 p q) := hq
      obtain ⟨⟨⟨c0, c1, _⟩, _⟩, _⟩ := hrd
      cases l2 with
      | nil =>
        have HA2 : Hid (askS s = (q, 0)) := by
          show _ = _
          rw [HA.out ⟨[], 0⟩ rfl]; rfl
        have c0' : w2.cell? ⟨w.heap.size, 0, none⟩ = some (.int .i64 0) := c0
        clear hb hq c0 c1 HA
        go_wp2_with (go_at_call 42; refine (must_yes _).mono ?_; rintro _ w0 ⟨rfl, hw0⟩; obtain rfl := hw0.symm)
        go_ret
        refine ⟨.inl ⟨by rw [HA2.out], p, w.heap.size, rfl, Nat.le_refl _, ?_⟩, HB2.out⟩
        rw [HA2.out]
        exact HM.out
      | cons y r =>
        have HA2 : Hid (askS s = (.nil, 3)) := by
          show _ = _
          rw [HA.out ⟨y :: r, 3⟩ rfl]; rfl
        obtain ⟨k, hk⟩ : ∃ k, (kindT y).1 = k := ⟨_, rfl⟩
        have c0' : w2.cell? ⟨w.heap.size, 0, none⟩ = some (.int .i64 k) := by rw [← hk]; exact c0
        have j0 : (k == 0) = false := by
          have := kind_ne y
          rw [hk] at this
          simpa using this
        clear hb hq c0 c1 HA hk
        go_wp2_with (go_at_call 42; refine (must_no _).mono ?_; rintro _ w0 ⟨rfl, hw0⟩; obtain rfl := hw0.symm)
        refine ⟨rfl, .inr ⟨by rw [HA2.out]; decide, by rw [HA2.out], by rw [HA2.out]⟩, HB2.out⟩
    · simp only at hb
      have HA2 : Hid (askS s = (.nil, s2.bad) ∧ s2.bad ≠ 0) := by
        refine ⟨?_, hb⟩
        have e : (if s2.l = [] then s2 else s2.fails 3) = s2 := by rw [show s2.fails 3 = s2 by rw [Rst.fails, if_neg hb]]; split <;> rfl
        rw [HA.out s2 e, if_neg hb]
      clear hb HA
      go_wp2
      refine ⟨rfl, .inr ⟨by rw [HA2.out.1]; exact HA2.out.2, by rw [HA2.out.1], by rw [HA2.out.1]⟩, HB2.out⟩
end Go.Proofs.YtjgdnainhoipgaaGreatDoor
