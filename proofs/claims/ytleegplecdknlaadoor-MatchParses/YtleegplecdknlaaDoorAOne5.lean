/- The document's reader of what is looked for: one, a word, and two that stand near. -/
import Derived.Test.YtleegplecdknlaaDoorAOne4
import Derived.Test.YtleegplecdknlaaDoorALay
namespace Go.Proofs.YtleegplecdknlaaDoor
open Go.RowKit

theorem sign_ix : ∀ n : Fin 256, decide (0 ≤ Lib.indexByte [40, 41, 42, 34] n.val.toUInt8) = isSign n.val.toUInt8 := by decide +kernel
theorem ix_any (x : Nat) (hx : x < 256) (b : Bool) (hb : isSign x.toUInt8 = b) (w : World) : Calls Tryd.prog 17 #[.string ⟨#[40, 41, 42, 34]⟩, .int .u8 (x : Int)] w fun e w' => ∃ n : Int, e = .returned (.int .i64 n) ∧ decide (0 ≤ n) = b ∧ w' = w := by
  refine (strings_ix ⟨#[40, 41, 42, 34]⟩ (x : Int) w).mono ?_
  rintro e w' ⟨rfl, rfl⟩
  exact ⟨_, rfl, by rw [← hb]; exact sign_ix ⟨x, hx⟩, rfl⟩

theorem near_no {t : ByteArray} {s : St} (h : (s.plain t).2.peek ≠ tNear) : nearM t s = (.node 1 [(s.plain t).1] .nil .nil, (s.plain t).2) := by
  unfold nearM; simp only; rw [take_no h]; rfl
theorem near_bad {t : ByteArray} {s : St} (h : (s.plain t).2.peek = tNear) {s3 : St} (h3 : ((s.plain t).2.take tNear).2 = s3) (hb : s3.peek = tNone ∨ isSign (firstB s3.peek) = true) : nearM t s = (.node 1 [(s.plain t).1] .nil .nil, s3.fails 3) := by
  unfold nearM; simp only; rw [h3, take_yes h]; simp only; rw [if_pos trivial, if_pos hb]
theorem near_yes {t : ByteArray} {s : St} (h : (s.plain t).2.peek = tNear) {s3 : St} (h3 : ((s.plain t).2.take tNear).2 = s3) (hb : ¬ (s3.peek = tNone ∨ isSign (firstB s3.peek) = true)) : nearM t s = (.node 3 [(s.plain t).1, ((s3.take s3.peek).2.plain s3.peek).1] .nil .nil, ((s3.take s3.peek).2.plain s3.peek).2) := by
  unfold nearM; simp only; rw [h3, take_yes h]; simp only; rw [if_pos trivial, if_neg hb]

/-- what the walk knows when a word begins a thing -/
structure Run (A : Nat) (d : Int) (s : St) (t : ByteArray) (w : World) (s1 : St) : Prop where
  ask : AskIs A s w
  deep : ¬ 12 < d
  peek : s.peek = t
  ne : t ≠ tNone
  d0 : (t.toList == [40]) = false
  d1 : (t.toList == []) = false
  d2 : (t.toList == [41]) = false
  d3 : (t.toList == [42]) = false
  d4 : (t.toList == [65, 78, 68]) = false
  d5 : (t.toList == [79, 82]) = false
  d6 : (t.toList == [78, 79, 84]) = false
  d7 : (t.toList == [78, 69, 65, 82]) = false
  pos : 0 < t.size
  first : ((t[0]).toNat : Int) ≠ 34
  size : t.size ≤ 1000
  next : (⟨s.l.tail, s.bad⟩ : St) = s1
  star : s1.peek ≠ tStar
theorem run_of {A : Nat} {d : Int} {s : St} {t : ByteArray} {w : World} (h : AskIs A s w) (hd : ¬ 12 < d) (ht : s.peek = t) (hp : t ≠ tOpen) (hn : noOne t = false) (hq : firstB t ≠ 34) (hst : (s.take t).2.peek ≠ tStar) : Run A d s t w (s.take t).2 := by
  obtain ⟨⟨d0, d1, d2, d3⟩, d4, d5, d6, d7⟩ := not_none hp hn
  have hne : t ≠ tNone := fun e => by rw [e] at hn; exact absurd hn (by decide)
  obtain ⟨hpos, hf⟩ := first_of hne
  refine ⟨h, hd, ht, hne, d0, d1, d2, d3, d4, d5, d6, d7, hpos, ?_, by rw [← ht]; exact peek_size h, by rw [take_yes ht], hst⟩
  intro e
  refine hq ?_
  rw [hf, ← UInt8.toNat_inj]
  have : t[0].toNat = 34 := by omega
  rw [this]; rfl

set_option maxRecDepth 100000 in
set_option maxHeartbeats 4000000 in
theorem one_word (A : Nat) (d : Int) (s : St) (t : ByteArray) (w : World) (s1 : St) (h : Run A d s t w s1) (hno : (s1.plain t).2.peek ≠ tNear) : OneTo A d w (.node 1 [(s1.plain t).1] .nil .nil, (s1.plain t).2) := by
  show Calls _ _ _ _ _
  obtain ⟨ha, hd, ht, hne, d0, d1, d2, d3, d4, d5, d6, d7, hpos, hf, hsz, hnx, hst⟩ := h
  have H : Hid (AskIs A s w) := ha
  have HE : Hid _ := zero_box ha
  have HP : Hid (s.peek = t ∧ t ≠ tNone ∧ (⟨s.l.tail, s.bad⟩ : St) = s1 ∧ s1.peek ≠ tStar) := ⟨ht, hne, hnx, hst⟩
  obtain ⟨x0, hx0⟩ : ∃ x, (t[0]).toNat = x := ⟨_, rfl⟩
  rw [hx0] at hf
  have hx34 : ((x0 : Int) == 34) = false := by simpa using hf
  have hi0 : (0 : Int) < (t.size : Int) := by omega
  clear ha ht hne hnx hst hf
  obtain ⟨y, hy⟩ : ∃ y, (s1.plain t).1 = y := ⟨_, rfl⟩
  obtain ⟨s2, hs2⟩ : ∃ y, (s1.plain t).2 = y := ⟨_, rfl⟩
  have HY : Hid ((s1.plain t).1 = y ∧ (s1.plain t).2 = s2) := ⟨hy, hs2⟩
  rw [hs2] at hno
  rw [hy, hs2]
  have HNo : Hid (s2.peek ≠ tNear) := hno
  clear hy hs2 hno
  go_enter Tryd.func26, Tryd.ntmps26
  go_wp2_with fail
  refine (peek_as t A s w H.out HP.out.1).mono ?_
  rintro _ w1 ⟨rfl, hw1⟩
  subst hw1
  go_wp2_with fail
  refine (takeY_any A s t _ HE.out.2.1 HP.out.1 HP.out.2.1).mono ?_
  rintro _ w2 ⟨rfl, ha2, hg2⟩
  rw [HP.out.2.2.1] at ha2
  have HE2 : Hid _ := RE.to HE.out ha2 hg2
  clear ha2 hg2 HE H
  go_wp2_with fail
  refine (takeN_any A s1 tStar _ HE2.out.2.1 HP.out.2.2.2).mono ?_
  rintro _ w3 ⟨rfl, hw3⟩
  subst hw3
  go_wp2_with fail
  refine (plain_any A s1 t _ HE2.out.2.1 hsz).mono ?_
  rintro _ w4 ⟨rfl, ha4, hg4⟩
  rw [HY.out.2] at ha4
  rw [HY.out.1]
  have HE5 : Hid _ := leaf_one ha4 (HE2.out.2.2.trans hg4) 1 y
  clear ha4 hg4 HE2
  go_wp2_with fail
  refine (takeN_any A s2 tNear _ HE5.out.2.1 HNo.out).mono ?_
  rintro _ w6 ⟨rfl, hw6⟩
  subst hw6
  go_wp2
  go_ret
  exact ⟨_, rfl, HE5.out.1, HE5.out.2.1, HE5.out.2.2⟩
end Go.Proofs.YtleegplecdknlaaDoor
