/- The document's reader of what is looked for: two that stand near. -/
import Derived.Test.YtleegplecdknlaaDoorAOne5
namespace Go.Proofs.YtleegplecdknlaaDoor
open Go.RowKit

theorem row_two {A : Nat} {w : World} (x y : ByteArray) (hA : A < w.heap.size) : RowW A (w.alloc (.cells #[.string x, .string y] 9)) (.slice (some ⟨w.heap.size, 0, none⟩) 2 2) [x, y] := by
  refine ⟨_, 2, rfl, by simp, .inr ⟨w.heap.size, 0, rfl, hA, by simp, fun i hi => ?_⟩⟩
  have : i = 0 ∨ i = 1 := by simp at hi; omega
  rcases this with rfl | rfl <;> simp
theorem leaf_two {A : Nat} {w0 w : World} {s : St} (ha : AskIs A s w) (hg : w0.grownBy w (some A)) (k : Int) (x y : ByteArray) :
    RE A w0 (some ⟨w.heap.size + 1, 0, none⟩) (.node k [x, y] .nil .nil) s ((w.alloc (.cells #[.string x, .string y] 9)).alloc (.cells #[.int .i64 k, .slice (some ⟨w.heap.size, 0, none⟩) 2 2, .pointer none, .pointer none] 49)) := by
  have h5 : RE A w0 none .nil s (w.alloc (.cells #[.string x, .string y] 9)) := ⟨rfl, ha.below ((Below.refl _ _).alloc (Nat.le_refl _) _), hg.trans (grown_of_belowA ((Below.refl _ _).alloc (Nat.le_refl _) _) _)⟩
  have h6 := leaf_box h5 k _ _ _ [x, y] (row_two x y ha.2.2.2.2.1)
  rw [show (w.alloc (.cells #[.string x, .string y] 9)).heap.size = w.heap.size + 1 by simp] at h6
  exact h6
/-- the word that was read lies there -/
def TwoE (A B : Nat) (y : ByteArray) (w0 : World) (s : St) (wx : World) : Prop := (wx.cell? ⟨B + 1, 1, none⟩ = some (.slice (some ⟨B, 0, none⟩) 1 1) ∧ wx.cell? ⟨B, 0, none⟩ = some (.string y)) ∧ (A < B ∧ B + 1 < wx.heap.size) ∧ AskIs A s wx ∧ w0.grownBy wx (some A)
theorem TwoE.to {A B : Nat} {y : ByteArray} {w0 : World} {s s' : St} {wx wy : World} (h : TwoE A B y w0 s wx) (ha : AskIs A s' wy) (hg : wx.grownBy wy (some A)) : TwoE A B y w0 s' wy := by
  obtain ⟨⟨h1, h2⟩, ⟨h3, h4⟩, _, h6⟩ := h
  have hs := hg.size
  refine ⟨⟨?_, ?_⟩, ⟨h3, by omega⟩, ha, h6.trans hg⟩
  · rw [World.cell?_of_block (w := wx) (a := ⟨B + 1, 1, none⟩) (hg.block (B + 1) h4 (fun e => by cases e; omega))]; exact h1
  · rw [World.cell?_of_block (w := wx) (a := ⟨B, 0, none⟩) (hg.block B (by omega) (fun e => by cases e; omega))]; exact h2
theorem TwoE.one {A B : Nat} {y : ByteArray} {w0 : World} {s : St} {wx : World} (h : TwoE A B y w0 s wx) (o : Obj) : (wx.alloc o).cell? ⟨B + 1, 1, none⟩ = some (.slice (some ⟨B, 0, none⟩) 1 1) ∧ (wx.alloc o).cell? ⟨B, 0, none⟩ = some (.string y) :=
  (h.to (h.2.2.1.below ((Below.refl _ _).alloc (Nat.le_refl _) _)) (grown_of_belowA ((Below.refl _ _).alloc (Nat.le_refl _) _) _)).1
theorem TwoE.two {A B : Nat} {y : ByteArray} {w0 : World} {s : St} {wx : World} (h : TwoE A B y w0 s wx) (o o' : Obj) : ((wx.alloc o).alloc o').cell? ⟨B + 1, 1, none⟩ = some (.slice (some ⟨B, 0, none⟩) 1 1) ∧ ((wx.alloc o).alloc o').cell? ⟨B, 0, none⟩ = some (.string y) :=
  (h.to (h.2.2.1.below (((Below.refl _ _).alloc (Nat.le_refl _) _).alloc (by simp) _)) (grown_of_belowA (((Below.refl _ _).alloc (Nat.le_refl _) _).alloc (by simp) _) _)).1
theorem TwoE.drew {A B : Nat} {y : ByteArray} {w0 : World} {s : St} {wx : World} (h : TwoE A B y w0 s wx) : TwoE A B y w0 s wx.drew := h.to (h.2.2.1.below (Below.refl _ _).drew) (grown_of_belowA (Below.refl _ _).drew _)
theorem TwoE.new {A : Nat} {y : ByteArray} {w0 w : World} {s : St} (ha : AskIs A s w) (hg : w0.grownBy w (some A)) (k : Int) : TwoE A w.heap.size y w0 s ((w.alloc (.cells #[.string y] 9)).alloc (.cells #[.int .i64 k, .slice (some ⟨w.heap.size, 0, none⟩) 1 1, .pointer none, .pointer none] 49)) := by
  have hb : Below w.heap.size w ((w.alloc (.cells #[.string y] 9)).alloc (.cells #[.int .i64 k, .slice (some ⟨w.heap.size, 0, none⟩) 1 1, .pointer none, .pointer none] 49)) := ((Below.refl _ _).alloc (Nat.le_refl _) _).alloc (by simp) _
  refine ⟨⟨?_, ?_⟩, ⟨ha.2.2.2.2.1, by simp⟩, ha.below hb, hg.trans (grown_of_belowA hb _)⟩
  · have h1 := heap_alloc_new (w.alloc (.cells #[.string y] 9)) (.cells #[.int .i64 k, .slice (some ⟨w.heap.size, 0, none⟩) 1 1, .pointer none, .pointer none] 49)
    rw [show (w.alloc (.cells #[.string y] 9)).heap.size = w.heap.size + 1 by simp] at h1
    simp only [World.cell?, h1]; simp
  · rw [World.cell?_alloc_lt _ _ _ (by simp)]; simp

set_option maxRecDepth 100000 in
set_option maxHeartbeats 4000000 in
theorem near_bad0 (A : Nat) (d : Int) (s : St) (t : ByteArray) (w : World) (s1 : St) (h : Run A d s t w s1) (hno : (s1.plain t).2.peek = tNear) (s3 : St) (h3 : (⟨(s1.plain t).2.l.tail, (s1.plain t).2.bad⟩ : St) = s3) (t2 : ByteArray) (ht2 : s3.peek = t2) (hb : t2 = tNone) : OneTo A d w (.node 1 [(s1.plain t).1] .nil .nil, s3.fails 3) := by
  show Calls _ _ _ _ _
  obtain ⟨ha, hd, ht, hne, d0, d1, d2, d3, d4, d5, d6, d7, hpos, hf, hsz, hnx, hst⟩ := h
  have H : Hid (AskIs A s w) := ha
  have HE : Hid _ := zero_box ha
  have HP : Hid (s.peek = t ∧ t ≠ tNone ∧ (⟨s.l.tail, s.bad⟩ : St) = s1 ∧ s1.peek ≠ tStar) := ⟨ht, hne, hnx, hst⟩
  obtain ⟨x0, hx0⟩ : ∃ x, (t[0]).toNat = x := ⟨_, rfl⟩
  rw [hx0] at hf
  have hx34 : ((x0 : Int) == 34) = false := by simpa using hf
  have hi0 : (0 : Int) < (t.size : Int) := by omega
  clear ha ht hne hnx hst hf
  obtain ⟨y, hy⟩ : ∃ y, (s1.plain t).1 = y := ⟨_, rfl⟩
  obtain ⟨s2, hs2⟩ : ∃ y, (s1.plain t).2 = y := ⟨_, rfl⟩
  have HY : Hid ((s1.plain t).1 = y ∧ (s1.plain t).2 = s2) := ⟨hy, hs2⟩
  rw [hs2] at hno h3
  rw [hy]
  have HNo : Hid (s2.peek = tNear ∧ (⟨s2.l.tail, s2.bad⟩ : St) = s3 ∧ s3.peek = t2) := ⟨hno, h3, ht2⟩
  have e2 : (t2.toList == []) = true := by rw [beqT, hb]; decide
  clear hno h3 ht2 hb
  clear hy hs2
  go_enter Tryd.func26, Tryd.ntmps26
  go_wp2_with fail
  refine (peek_as t A s w H.out HP.out.1).mono ?_
  rintro _ w1 ⟨rfl, hw1⟩
  subst hw1
  go_wp2_with fail
  refine (takeY_any A s t _ HE.out.2.1 HP.out.1 HP.out.2.1).mono ?_
  rintro _ w2 ⟨rfl, ha2, hg2⟩
  rw [HP.out.2.2.1] at ha2
  have HE2 : Hid _ := RE.to HE.out ha2 hg2
  clear ha2 hg2 HE H
  go_wp2_with fail
  refine (takeN_any A s1 tStar _ HE2.out.2.1 HP.out.2.2.2).mono ?_
  rintro _ w3 ⟨rfl, hw3⟩
  subst hw3
  go_wp2_with fail
  refine (plain_any A s1 t _ HE2.out.2.1 hsz).mono ?_
  rintro _ w4 ⟨rfl, ha4, hg4⟩
  rw [HY.out.2] at ha4
  rw [HY.out.1]
  have HE5 : Hid _ := leaf_one ha4 (HE2.out.2.2.trans hg4) 1 y
  clear ha4 hg4 HE2
  go_wp2_with fail
  refine (takeY_any A s2 tNear _ HE5.out.2.1 HNo.out.1 (by decide)).mono ?_
  rintro _ w6 ⟨rfl, ha6, hg6⟩
  rw [HNo.out.2.1] at ha6
  have HE6 : Hid _ := RE.to HE5.out ha6 hg6
  clear ha6 hg6 HE5
  go_wp2_with fail
  refine (peek_as t2 A s3 _ HE6.out.2.1 HNo.out.2.2).mono ?_
  rintro _ w7 ⟨rfl, hw7⟩
  subst hw7
  go_wp2_with fail
  refine (fails_any A s3 3 _ HE6.out.2.1).mono ?_
  rintro _ w8 ⟨rfl, ha8, hg8⟩
  have HE8 : Hid _ := RE.to HE6.out ha8 hg8
  clear ha8 hg8 HE6
  go_wp2
  go_ret
  exact ⟨_, rfl, HE8.out.1, HE8.out.2.1, HE8.out.2.2⟩

set_option maxRecDepth 100000 in
set_option maxHeartbeats 4000000 in
theorem near_bad1 (A : Nat) (d : Int) (s : St) (t : ByteArray) (w : World) (s1 : St) (h : Run A d s t w s1) (hno : (s1.plain t).2.peek = tNear) (s3 : St) (h3 : (⟨(s1.plain t).2.l.tail, (s1.plain t).2.bad⟩ : St) = s3) (t2 : ByteArray) (ht2 : s3.peek = t2) (hb : t2 ≠ tNone) (hs : isSign (firstB t2) = true) : OneTo A d w (.node 1 [(s1.plain t).1] .nil .nil, s3.fails 3) := by
  show Calls _ _ _ _ _
  obtain ⟨ha, hd, ht, hne, d0, d1, d2, d3, d4, d5, d6, d7, hpos, hf, hsz, hnx, hst⟩ := h
  have H : Hid (AskIs A s w) := ha
  have HE : Hid _ := zero_box ha
  have HP : Hid (s.peek = t ∧ t ≠ tNone ∧ (⟨s.l.tail, s.bad⟩ : St) = s1 ∧ s1.peek ≠ tStar) := ⟨ht, hne, hnx, hst⟩
  obtain ⟨x0, hx0⟩ : ∃ x, (t[0]).toNat = x := ⟨_, rfl⟩
  rw [hx0] at hf
  have hx34 : ((x0 : Int) == 34) = false := by simpa using hf
  have hi0 : (0 : Int) < (t.size : Int) := by omega
  clear ha ht hne hnx hst hf
  obtain ⟨y, hy⟩ : ∃ y, (s1.plain t).1 = y := ⟨_, rfl⟩
  obtain ⟨s2, hs2⟩ : ∃ y, (s1.plain t).2 = y := ⟨_, rfl⟩
  have HY : Hid ((s1.plain t).1 = y ∧ (s1.plain t).2 = s2) := ⟨hy, hs2⟩
  rw [hs2] at hno h3
  rw [hy]
  have e2 : (t2.toList == []) = false := by rw [beqT, decide_eq_false_iff_not]; exact hb
  obtain ⟨hpos2, hf2⟩ := first_of hb
  obtain ⟨x2, hx2⟩ : ∃ x, (t2[0]).toNat = x := ⟨_, rfl⟩
  have hi2 : (0 : Int) < (t2.size : Int) := by omega
  have HIx : Hid (x2 < 256 ∧ isSign x2.toUInt8 = true) := ⟨by rw [← hx2]; exact UInt8.toNat_lt _, by rw [← hx2, ← hs, hf2]; simp⟩
  have HNo : Hid (s2.peek = tNear ∧ (⟨s2.l.tail, s2.bad⟩ : St) = s3 ∧ s3.peek = t2) := ⟨hno, h3, ht2⟩
  clear hno h3 ht2 hb hs hf2
  clear hy hs2
  go_enter Tryd.func26, Tryd.ntmps26
  go_wp2_with fail
  refine (peek_as t A s w H.out HP.out.1).mono ?_
  rintro _ w1 ⟨rfl, hw1⟩
  subst hw1
  go_wp2_with fail
  refine (takeY_any A s t _ HE.out.2.1 HP.out.1 HP.out.2.1).mono ?_
  rintro _ w2 ⟨rfl, ha2, hg2⟩
  rw [HP.out.2.2.1] at ha2
  have HE2 : Hid _ := RE.to HE.out ha2 hg2
  clear ha2 hg2 HE H
  go_wp2_with fail
  refine (takeN_any A s1 tStar _ HE2.out.2.1 HP.out.2.2.2).mono ?_
  rintro _ w3 ⟨rfl, hw3⟩
  subst hw3
  go_wp2_with fail
  refine (plain_any A s1 t _ HE2.out.2.1 hsz).mono ?_
  rintro _ w4 ⟨rfl, ha4, hg4⟩
  rw [HY.out.2] at ha4
  rw [HY.out.1]
  have HE5 : Hid _ := leaf_one ha4 (HE2.out.2.2.trans hg4) 1 y
  clear ha4 hg4 HE2
  go_wp2_with fail
  refine (takeY_any A s2 tNear _ HE5.out.2.1 HNo.out.1 (by decide)).mono ?_
  rintro _ w6 ⟨rfl, ha6, hg6⟩
  rw [HNo.out.2.1] at ha6
  have HE6 : Hid _ := RE.to HE5.out ha6 hg6
  clear ha6 hg6 HE5
  go_wp2_with fail
  refine (peek_as t2 A s3 _ HE6.out.2.1 HNo.out.2.2).mono ?_
  rintro _ w7 ⟨rfl, hw7⟩
  subst hw7
  go_wp2_with fail
  refine (ix_any x2 HIx.out.1 _ HIx.out.2 _).mono ?_
  rintro _ w8 ⟨n8, rfl, hn8, hw8⟩
  subst hw8
  go_wp2_with fail
  refine (fails_any A s3 3 _ HE6.out.2.1).mono ?_
  rintro _ w9 ⟨rfl, ha9, hg9⟩
  have HE9 : Hid _ := RE.to HE6.out ha9 hg9
  clear ha9 hg9 HE6
  go_wp2
  go_ret
  exact ⟨_, rfl, HE9.out.1, HE9.out.2.1, HE9.out.2.2⟩

set_option maxRecDepth 100000 in
set_option maxHeartbeats 4000000 in
theorem near_two (A : Nat) (d : Int) (s : St) (t : ByteArray) (w : World) (s1 : St) (h : Run A d s t w s1) (hno : (s1.plain t).2.peek = tNear) (s3 : St) (h3 : (⟨(s1.plain t).2.l.tail, (s1.plain t).2.bad⟩ : St) = s3) (t2 : ByteArray) (ht2 : s3.peek = t2) (hb : t2 ≠ tNone) (hs : isSign (firstB t2) = false) (s4 : St) (h4 : (⟨s3.l.tail, s3.bad⟩ : St) = s4) : OneTo A d w (.node 3 [(s1.plain t).1, (s4.plain t2).1] .nil .nil, (s4.plain t2).2) := by
  show Calls _ _ _ _ _
  obtain ⟨ha, hd, ht, hne, d0, d1, d2, d3, d4, d5, d6, d7, hpos, hf, hsz, hnx, hst⟩ := h
  have H : Hid (AskIs A s w) := ha
  have HE : Hid _ := zero_box ha
  have HP : Hid (s.peek = t ∧ t ≠ tNone ∧ (⟨s.l.tail, s.bad⟩ : St) = s1 ∧ s1.peek ≠ tStar) := ⟨ht, hne, hnx, hst⟩
  obtain ⟨x0, hx0⟩ : ∃ x, (t[0]).toNat = x := ⟨_, rfl⟩
  rw [hx0] at hf
  have hx34 : ((x0 : Int) == 34) = false := by simpa using hf
  have hi0 : (0 : Int) < (t.size : Int) := by omega
  clear ha ht hne hnx hst hf
  obtain ⟨y, hy⟩ : ∃ y, (s1.plain t).1 = y := ⟨_, rfl⟩
  obtain ⟨s2, hs2⟩ : ∃ y, (s1.plain t).2 = y := ⟨_, rfl⟩
  have HY : Hid ((s1.plain t).1 = y ∧ (s1.plain t).2 = s2) := ⟨hy, hs2⟩
  rw [hs2] at hno h3
  rw [hy]
  have e2 : (t2.toList == []) = false := by rw [beqT, decide_eq_false_iff_not]; exact hb
  obtain ⟨hpos2, hf2⟩ := first_of hb
  obtain ⟨x2, hx2⟩ : ∃ x, (t2[0]).toNat = x := ⟨_, rfl⟩
  have hi2 : (0 : Int) < (t2.size : Int) := by omega
  have HIx : Hid (x2 < 256 ∧ isSign x2.toUInt8 = false) := ⟨by rw [← hx2]; exact UInt8.toNat_lt _, by rw [← hx2, ← hs, hf2]; simp⟩
  have HNo : Hid (s2.peek = tNear ∧ (⟨s2.l.tail, s2.bad⟩ : St) = s3 ∧ s3.peek = t2) := ⟨hno, h3, ht2⟩
  obtain ⟨y2, hy2⟩ : ∃ y, (s4.plain t2).1 = y := ⟨_, rfl⟩
  obtain ⟨s5, hs5⟩ : ∃ y, (s4.plain t2).2 = y := ⟨_, rfl⟩
  have HY2 : Hid ((s4.plain t2).1 = y2 ∧ (s4.plain t2).2 = s5 ∧ (⟨s3.l.tail, s3.bad⟩ : St) = s4 ∧ t2 ≠ tNone) := ⟨hy2, hs5, h4, hb⟩
  rw [hy2, hs5]
  clear hno h3 ht2 hb hs hf2 hy2 hs5 h4
  clear hy hs2
  go_enter Tryd.func26, Tryd.ntmps26
  go_wp2_with fail
  refine (peek_as t A s w H.out HP.out.1).mono ?_
  rintro _ w1 ⟨rfl, hw1⟩
  subst hw1
  go_wp2_with fail
  refine (takeY_any A s t _ HE.out.2.1 HP.out.1 HP.out.2.1).mono ?_
  rintro _ w2 ⟨rfl, ha2, hg2⟩
  rw [HP.out.2.2.1] at ha2
  have HE2 : Hid _ := RE.to HE.out ha2 hg2
  clear ha2 hg2 HE H
  go_wp2_with fail
  refine (takeN_any A s1 tStar _ HE2.out.2.1 HP.out.2.2.2).mono ?_
  rintro _ w3 ⟨rfl, hw3⟩
  subst hw3
  go_wp2_with fail
  refine (plain_any A s1 t _ HE2.out.2.1 hsz).mono ?_
  rintro _ w4 ⟨rfl, ha4, hg4⟩
  rw [HY.out.2] at ha4
  rw [HY.out.1]
  have HE5 : Hid (TwoE A w4.heap.size y w1 s2 _) := TwoE.new (y := y) ha4 (HE2.out.2.2.trans hg4) 1
  clear ha4 hg4 HE2
  go_wp2_with fail
  refine (takeY_any A s2 tNear _ HE5.out.2.2.1 HNo.out.1 (by decide)).mono ?_
  rintro _ w6 ⟨rfl, ha6, hg6⟩
  rw [HNo.out.2.1] at ha6
  have HE6 : Hid _ := TwoE.to HE5.out ha6 hg6
  clear ha6 hg6 HE5
  go_wp2_with fail
  refine (peek_as t2 A s3 _ HE6.out.2.2.1 HNo.out.2.2).mono ?_
  rintro _ w7 ⟨rfl, hw7⟩
  subst hw7
  have hsz2 : t2.size ≤ 1000 := by rw [← HNo.out.2.2]; exact peek_size HE6.out.2.2.1
  go_wp2_with fail
  refine (ix_any x2 HIx.out.1 _ HIx.out.2 _).mono ?_
  rintro _ w8 ⟨n8, rfl, hn8, hw8⟩
  subst hw8
  go_wp2_with fail
  refine (takeY_any A s3 t2 _ HE6.out.2.2.1 HNo.out.2.2 HY2.out.2.2.2).mono ?_
  rintro _ w9 ⟨rfl, ha9, hg9⟩
  rw [HY2.out.2.2.1] at ha9
  have HT : Hid _ := TwoE.to HE6.out ha9 hg9
  clear ha9 hg9 HE6
  go_wp2_with fail
  have HT : Hid _ := TwoE.drew HT.out
  go_region_held3 (fun w' => w'.cell? ⟨w4.heap.size + 1, 1, none⟩ = some (.slice (some ⟨w4.heap.size, 0, none⟩) 1 1) ∧ w'.cell? ⟨w4.heap.size, 0, none⟩ = some (.string y)) (first | exact HT.out.1 | exact TwoE.one HT.out _ | exact TwoE.two HT.out _ _)
    ((go_at_call 38; refine Calls.mono (plain_any A s4 t2 _ HT.out.2.2.1 hsz2) ?_; rintro _ w10 ⟨rfl, ha10, hg10⟩; have HT : Hid _ := TwoE.to HT.out ha10 hg10; clear ha10 hg10))
  rw [HY2.out.1]
  have HE11 : Hid (RE A w1 _ _ s5 _) := leaf_two (by have h := HT.out.2.2.1; rw [HY2.out.2.1] at h; exact h) HT.out.2.2.2 3 y y2
  clear HT
  go_wp2
  go_ret
  exact ⟨_, rfl, HE11.out.1, HE11.out.2.1, HE11.out.2.2⟩

end Go.Proofs.YtleegplecdknlaaDoor
