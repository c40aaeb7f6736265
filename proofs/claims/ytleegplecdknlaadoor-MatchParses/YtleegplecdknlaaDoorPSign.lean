/- The program's sign; plain and beginning. -/
import Derived.Test.YtleegplecdknlaaDoorPTake
import Derived.Test.YtleegplecdknlaaDoorWSplit
namespace Go.Proofs.YtleegplecdknlaaDoor
open Go.RowKit

theorem take_any (A : Nat) (l : List ByteArray) (w : World) (h : Rd A l w) : Calls Tryd.prog 22 #[.pointer (some ⟨A, 0, none⟩)] w fun e w' => e = .returned (.agg #[.int .i64 (headP l).1, .string (headP l).2]) ∧ Rd A l.tail w' ∧ w.grownBy w' (some A) := take0_any A _ _ _ w h.1
/-- what stands there is a run, just so written -/
theorem head_is {l : List ByteArray} (hg : ∀ x ∈ l.head?, Good x) {x : ByteArray} (hx : kindT x = (5, x)) (hn : x ≠ tNone) : (decide ((headP l).1 = 5) && decide ((headP l).2 = x)) = decide ((⟨l, 0⟩ : St).peek = x) := by
  cases l with
  | nil =>
    have : ¬ (⟨[], 0⟩ : St).peek = x := fun e => hn e.symm
    rw [decide_eq_false this]; rfl
  | cons y r =>
    have hp : (⟨y :: r, 0⟩ : St).peek = y := rfl
    rw [hp]
    have hy : Good y := hg y rfl
    have key : ∀ k t, k ≠ (5 : Int) → kindT y = (k, t) → (decide ((headP (y :: r)).1 = 5) && decide ((headP (y :: r)).2 = x)) = decide (y = x) := by
      intro k t hk e
      have : ¬ y = x := fun e' => by
        rw [e', hx] at e
        exact hk (congrArg Prod.fst e).symm
      rw [decide_eq_false this, headP, e, decide_eq_false (show ¬ (k, t).1 = 5 from hk)]; rfl
    cases hy with
    | opens => exact key 1 _ (by decide) rfl
    | shuts => exact key 2 _ (by decide) rfl
    | star => exact key 3 _ (by decide) rfl
    | quoted r' _ => exact key 4 _ (by decide) (kind_quoted r')
    | run c r' _ h =>
      rw [headP, kind_run (h c (by simp))]
      simp
theorem kind_or : kindT tOr = (5, tOr) := by decide
theorem kind_and : kindT tAnd = (5, tAnd) := by decide
theorem kind_not : kindT tNot = (5, tNot) := by decide
theorem kind_near : kindT tNear = (5, tNear) := by decide

set_option maxHeartbeats 2000000 in
theorem signN_any (A : Nat) (l : List ByteArray) (x : ByteArray) (w : World) (h : Rd A l w) (hx : kindT x = (5, x)) (hn : x ≠ tNone) (hp : (⟨l, 0⟩ : St).peek ≠ x) : Calls Tryd.prog 33 #[.pointer (some ⟨A, 0, none⟩), .string x] w fun e w' => e = .returned (.bool false) ∧ Rd A l w' ∧ w.grownBy w' (some A) := by
  have H : Hid (Rd A l w) := h
  have HB : Hid ((decide ((headP l).1 = 5) && decide ((headP l).2 = x)) = false) := by
    show _ = _
    rw [head_is h.2 hx hn, decide_eq_false hp]
  obtain ⟨⟨⟨h1, h2, _⟩, _⟩, _⟩ := h
  clear hx hn hp
  go_enter Tryd.func33, Tryd.ntmps33
  go_wp2_with fail
  refine (isP_any _ _ x _ HB.out w).mono ?_
  rintro _ w1 ⟨rfl, hb1⟩
  have H1 : Hid (Rd A l w1 ∧ w.grownBy w1 (some A)) := ⟨H.out.below hb1, grown_of_belowA hb1 _⟩
  clear hb1 h1 h2
  go_wp2
  go_ret
  exact ⟨rfl, H1.out.1, H1.out.2⟩
set_option maxHeartbeats 2000000 in
theorem signY_any (A : Nat) (l : List ByteArray) (x : ByteArray) (w : World) (h : Rd A l w) (hx : kindT x = (5, x)) (hn : x ≠ tNone) (hp : (⟨l, 0⟩ : St).peek = x) : Calls Tryd.prog 33 #[.pointer (some ⟨A, 0, none⟩), .string x] w fun e w' => e = .returned (.bool true) ∧ Rd A l.tail w' ∧ w.grownBy w' (some A) := by
  have H : Hid (Rd A l w) := h
  have HB : Hid ((decide ((headP l).1 = 5) && decide ((headP l).2 = x)) = true) := by
    show _ = _
    rw [head_is h.2 hx hn, decide_eq_true hp]
  obtain ⟨⟨⟨h1, h2, _⟩, _⟩, _⟩ := h
  clear hx hn hp
  go_enter Tryd.func33, Tryd.ntmps33
  go_wp2_with fail
  refine (isP_any _ _ x _ HB.out w).mono ?_
  rintro _ w1 ⟨rfl, hb1⟩
  have H1 : Hid (Rd A l w1 ∧ w.grownBy w1 (some A)) := ⟨H.out.below hb1, grown_of_belowA hb1 _⟩
  clear hb1 h1 h2
  go_wp2_with fail
  refine (take_any A l w1 H1.out.1).mono ?_
  rintro _ w2 ⟨rfl, hr2, hg2⟩
  have H2 : Hid (Rd A l.tail w2 ∧ w.grownBy w2 (some A)) := ⟨hr2, H1.out.2.trans hg2⟩
  clear hr2 hg2 H1
  go_wp2
  go_ret
  exact ⟨rfl, H2.out.1, H2.out.2⟩

set_option maxHeartbeats 2000000 in
theorem plainY_any (x y : ByteArray) (w : World) (hx : x.size ≤ 1000) (he : EndsAt w) (hw : wordsL x.data.toList = [y]) : Calls Tryd.prog 58 #[.string x] w fun e w' => e = .returned (.string y) ∧ Below w.heap.size w w' := by
  have HW : Hid (wordsL x.data.toList = [y]) := hw
  have HE : Hid (EndsAt w) := he
  clear hw he
  go_enter Tryd.func58, Tryd.ntmps58
  go_wp2_with fail
  refine (split_any x w (by omega) HE.out).mono ?_
  rintro _ w1 ⟨v1, rfl, ho1, hb1⟩
  rw [HW.out] at ho1
  have HB1 : Hid (Below w.heap.size w w1) := hb1
  rcases ho1.2 with ⟨_, h0⟩ | ⟨g, cap, cur, rfl, _⟩
  · cases h0
  have hc := ho1.cells (g := g) rfl 0 (.string y) (by simp [sc])
  rw [Go.WideShapes.add_plain] at hc
  simp only [Nat.add_zero] at hc
  clear ho1 hb1
  go_wp2_with (go_at_call 20; refine (must_yes _).mono ?_; rintro _ _ ⟨rfl, rfl⟩)
  go_ret
  exact ⟨rfl, HB1.out⟩
set_option maxHeartbeats 2000000 in
theorem plainN_any (x : ByteArray) (w : World) (hx : x.size ≤ 1000) (he : EndsAt w) (hw : (wordsL x.data.toList).length ≠ 1) : Calls Tryd.prog 58 #[.string x] w fun e w' => e = .panicked [{ v := .iface 55 (.agg #[.int .i64 3]), recovered := false }] ∧ Below w.heap.size w w' := by
  obtain ⟨ws, hws⟩ : ∃ ws, wordsL x.data.toList = ws := ⟨_, rfl⟩
  rw [hws] at hw
  have HW : Hid (wordsL x.data.toList = ws) := hws
  have hwl : ws.length ≤ 1001 := by rw [← hws]; have := words_length x.data.toList; rw [ba_len] at this; omega
  have HE : Hid (EndsAt w) := he
  clear hws he
  go_enter Tryd.func58, Tryd.ntmps58
  go_wp2_with fail
  refine (split_any x w (by omega) HE.out).mono ?_
  rintro _ w1 ⟨v1, rfl, ho1, hb1⟩
  rw [HW.out] at ho1
  have HB1 : Hid (Below w.heap.size w w1) := hb1
  obtain ⟨a, cap, rfl⟩ : ∃ a cap, v1 = .slice a ws.length cap := by
    rcases ho1.2 with ⟨rfl, h0⟩ | ⟨g, cap, cur, rfl, _⟩
    · exact ⟨none, 0, by rw [h0]⟩
    · exact ⟨_, cap, rfl⟩
  clear ho1 hb1
  obtain ⟨n, hn⟩ : ∃ n, ws.length = n := ⟨_, rfl⟩
  rw [hn] at hw hwl ⊢
  have d1 : ((n : Int) == 1) = false := by simp; omega
  go_wp2_with (go_at_call 20; refine (must_no _).mono ?_; rintro _ _ ⟨rfl, rfl⟩)
  exact ⟨rfl, rfl, HB1.out⟩
end Go.Proofs.YtleegplecdknlaaDoor
