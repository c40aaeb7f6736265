/- The document's reader of what is looked for: one, in quotes. -/
import Derived.Test.YtleegplecdknlaaDoorAOne2
namespace Go.Proofs.YtleegplecdknlaaDoor
open Go.RowKit

theorem drop_one (t : ByteArray) : (t.extract 1 t.size).data.toList = t.data.toList.drop 1 := by
  rw [ba_extract, List.take_of_length_le (by rw [ba_len]; omega)]

/-- a query without others in it -/
theorem leaf_box {A : Nat} {w0 w : World} {s : St} {p : Option Addr} {q : Qy} (h : RE A w0 p q s w) (k : Int) (a : Option Addr) (n c : Nat) (ws : List ByteArray) (hw : RowW A w (.slice a n c) ws) :
    RE A w0 (some ⟨w.heap.size, 0, none⟩) (.node k ws .nil .nil) s (w.alloc (.cells #[.int .i64 k, .slice a n c, .pointer none, .pointer none] 49)) :=
  ⟨QIs.box h.2.1.2.2.2.2.1 k _ none none ws .nil .nil hw rfl rfl, h.2.1.below ((Below.refl _ _).alloc (Nat.le_refl _) _), h.2.2.trans (grown_of_belowA ((Below.refl _ _).alloc (Nat.le_refl _) _) _)⟩

set_option maxRecDepth 100000 in
set_option maxHeartbeats 4000000 in
theorem one_quote (A : Nat) (d : Int) (s : St) (t : ByteArray) (w : World) (h : AskIs A s w) (hd : ¬ 12 < d) (ht : s.peek = t) (hp : t ≠ tOpen) (hn : noOne t = false) (hq : firstB t = 34) (R : Qy × St) (hR : R = (.node 1 (wordsL (t.data.toList.drop 1)) .nil .nil, if wordsL (t.data.toList.drop 1) = [] then (s.take t).2.fails 3 else (s.take t).2)) : OneTo A d w R := by
  show Calls _ _ _ _ _
  have H : Hid (AskIs A s w) := h
  have HE : Hid _ := zero_box h
  have hsz : t.size ≤ 1000 := by rw [← ht]; exact peek_size h
  clear h
  obtain ⟨⟨d0, d1, d2, d3⟩, d4, d5, d6, d7⟩ := not_none hp hn
  have hne : t ≠ tNone := fun e => by rw [e] at hn; exact absurd hn (by decide)
  obtain ⟨hpos, hf⟩ := first_of hne
  rw [take_yes ht] at hR
  have HP : Hid (s.peek = t ∧ t ≠ tNone) := ⟨ht, hne⟩
  have hx : t[0] = 34 := by rw [← hf]; exact hq
  clear ht hp hn hq hf hne
  have hx34 : (t[0]).toNat = 34 := by rw [hx]; rfl
  have hi0 : (0 : Int) < (t.size : Int) := by omega
  obtain ⟨s1, hs1⟩ : ∃ t, (⟨s.l.tail, s.bad⟩ : St) = t := ⟨_, rfl⟩
  have HS1 : Hid ((⟨s.l.tail, s.bad⟩ : St) = s1) := hs1
  simp only [hs1] at hR
  obtain ⟨ws, hws⟩ : ∃ ws, wordsL (t.data.toList.drop 1) = ws := ⟨_, rfl⟩
  have HW : Hid (wordsL (t.extract 1 t.size).data.toList = ws) := by show _ = _; rw [drop_one]; exact hws
  have hwl : ws.length ≤ 1001 := by rw [← hws]; have := words_length (t.data.toList.drop 1); simp only [List.length_drop] at this; rw [ba_len] at this; omega
  simp only [hws] at hR
  clear hs1 hws hx
  by_cases h0 : ws = []
  · have HR : Hid (R = (.node 1 ws .nil .nil, s1.fails 3)) := by show _ = _; rw [hR, if_pos h0]
    have HL0 : Hid (ws.length = 0) := by show _ = _; rw [h0]; rfl
    clear hR h0
    go_enter Tryd.func26, Tryd.ntmps26
    go_wp2_with fail
    refine (peek_as t A s w H.out HP.out.1).mono ?_
    rintro _ w1 ⟨rfl, hw1⟩
    subst hw1
    go_wp2_with fail
    refine (takeY_any A s t _ HE.out.2.1 HP.out.1 HP.out.2).mono ?_
    rintro _ w2 ⟨rfl, ha2, hg2⟩
    rw [HS1.out] at ha2
    have HE2 : Hid _ := RE.to HE.out ha2 hg2
    clear ha2 hg2 HE H
    go_wp2_with fail
    refine (words_any (t.extract 1 t.size) w2 (by simp; omega)).mono ?_
    rintro _ w3 ⟨v3, rfl, ho3, hb3⟩
    rw [HW.out] at ho3
    have HE3 : Hid _ := RE.to HE2.out (HE2.out.2.1.below hb3) (grown_of_belowA hb3 _)
    have hr3 := rowW_of_own ho3 HE2.out.2.1.2.2.2.2.1 (by omega)
    obtain ⟨a, cap, rfl⟩ : ∃ a cap, v3 = .slice a ws.length cap := by
      obtain ⟨a, c, e, _⟩ := hr3
      exact ⟨a, c, e⟩
    have HE4 : Hid _ := leaf_box HE3.out 1 a ws.length cap ws hr3
    clear ho3 hb3 hr3 HE2 HE3
    rw [HL0.out] at HE4 ⊢
    go_wp2_with fail
    refine (fails_any A s1 3 _ HE4.out.2.1).mono ?_
    rintro _ w5 ⟨rfl, ha5, hg5⟩
    have HE5 : Hid _ := RE.to HE4.out ha5 hg5
    clear ha5 hg5 HE4
    go_wp2
    go_ret
    rw [HR.out]
    exact ⟨_, rfl, HE5.out.1, HE5.out.2.1, HE5.out.2.2⟩
  · have HR : Hid (R = (.node 1 ws .nil .nil, s1)) := by show _ = _; rw [hR, if_neg h0]
    have hl0 : ws.length ≠ 0 := fun e => h0 (List.length_eq_zero_iff.1 e)
    clear hR h0
    go_enter Tryd.func26, Tryd.ntmps26
    go_wp2_with fail
    refine (peek_as t A s w H.out HP.out.1).mono ?_
    rintro _ w1 ⟨rfl, hw1⟩
    subst hw1
    go_wp2_with fail
    refine (takeY_any A s t _ HE.out.2.1 HP.out.1 HP.out.2).mono ?_
    rintro _ w2 ⟨rfl, ha2, hg2⟩
    rw [HS1.out] at ha2
    have HE2 : Hid _ := RE.to HE.out ha2 hg2
    clear ha2 hg2 HE H
    go_wp2_with fail
    refine (words_any (t.extract 1 t.size) w2 (by simp; omega)).mono ?_
    rintro _ w3 ⟨v3, rfl, ho3, hb3⟩
    rw [HW.out] at ho3
    have HE3 : Hid _ := RE.to HE2.out (HE2.out.2.1.below hb3) (grown_of_belowA hb3 _)
    have hr3 := rowW_of_own ho3 HE2.out.2.1.2.2.2.2.1 (by omega)
    obtain ⟨a, cap, rfl⟩ : ∃ a cap, v3 = .slice a ws.length cap := by
      obtain ⟨a, c, e, _⟩ := hr3
      exact ⟨a, c, e⟩
    have HE4 : Hid _ := leaf_box HE3.out 1 a ws.length cap ws hr3
    clear ho3 hb3 hr3 HE2 HE3
    obtain ⟨n, hn⟩ : ∃ n, ws.length = n := ⟨_, rfl⟩
    rw [hn] at HE4 hl0 hwl ⊢
    have dn : ((n : Int) == 0) = false := by simp; omega
    go_wp2
    go_ret
    rw [HR.out]
    exact ⟨_, rfl, HE4.out.1, HE4.out.2.1, HE4.out.2.2⟩
end Go.Proofs.YtleegplecdknlaaDoor
