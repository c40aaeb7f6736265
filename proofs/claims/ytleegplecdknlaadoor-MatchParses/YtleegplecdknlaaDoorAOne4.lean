/- The document's reader of what is looked for: one, what begins so. -/
import Derived.Test.YtleegplecdknlaaDoorAOne3
namespace Go.Proofs.YtleegplecdknlaaDoor
open Go.RowKit

theorem row_one {A : Nat} {w : World} (x : ByteArray) (hA : A < w.heap.size) : RowW A (w.alloc (.cells #[.string x] 9)) (.slice (some ⟨w.heap.size, 0, none⟩) 1 1) [x] := by
  refine ⟨_, 1, rfl, by simp, .inr ⟨w.heap.size, 0, rfl, hA, by simp, fun i hi => ?_⟩⟩
  have : i = 0 := by simp at hi; omega
  subst this
  simp
theorem leaf_one {A : Nat} {w0 w : World} {s : St} (ha : AskIs A s w) (hg : w0.grownBy w (some A)) (k : Int) (x : ByteArray) :
    RE A w0 (some ⟨w.heap.size + 1, 0, none⟩) (.node k [x] .nil .nil) s ((w.alloc (.cells #[.string x] 9)).alloc (.cells #[.int .i64 k, .slice (some ⟨w.heap.size, 0, none⟩) 1 1, .pointer none, .pointer none] 49)) := by
  have h5 : RE A w0 none .nil s (w.alloc (.cells #[.string x] 9)) := ⟨rfl, ha.below ((Below.refl _ _).alloc (Nat.le_refl _) _), hg.trans (grown_of_belowA ((Below.refl _ _).alloc (Nat.le_refl _) _) _)⟩
  have h6 := leaf_box h5 k _ _ _ [x] (row_one x ha.2.2.2.2.1)
  rw [show (w.alloc (.cells #[.string x] 9)).heap.size = w.heap.size + 1 by simp] at h6
  exact h6
theorem begins_step {s : St} {x : ByteArray} {l : List UInt8} {k : Nat} (h : k < l.length) : s.begins x (l.drop k) = (if !alnum l[k] || decide (12 < x.size) then s.fails 3 else s).begins x (l.drop (k + 1)) := by
  rw [List.drop_eq_getElem_cons h, St.begins]
theorem smallS_get (t : ByteArray) (k : Nat) (h : k < (smallS t).size) : (smallS t)[k] = (smallL t.data.toList)[k]'(by rw [small_len, ← smallS_size]; exact h) := by
  show (smallS t).data[k] = _
  simp [smallS]

set_option maxRecDepth 100000 in
set_option maxHeartbeats 4000000 in
theorem one_star (A : Nat) (d : Int) (s : St) (t : ByteArray) (w : World) (h : AskIs A s w) (hd : ¬ 12 < d) (ht : s.peek = t) (hp : t ≠ tOpen) (hn : noOne t = false) (hq : firstB t ≠ 34) (hst : (s.take t).2.peek = tStar) (R : Qy × St) (hR : R = (.node 2 [smallS t] .nil .nil, ((s.take t).2.take tStar).2.begins t (smallL t.data.toList))) : OneTo A d w R := by
  show Calls _ _ _ _ _
  have H : Hid (AskIs A s w) := h
  have HE : Hid _ := zero_box h
  have hsz : t.size ≤ 1000 := by rw [← ht]; exact peek_size h
  clear h
  obtain ⟨⟨d0, d1, d2, d3⟩, d4, d5, d6, d7⟩ := not_none hp hn
  have hne : t ≠ tNone := fun e => by rw [e] at hn; exact absurd hn (by decide)
  obtain ⟨hpos, hf⟩ := first_of hne
  obtain ⟨s1, hs1⟩ : ∃ u, (s.take t).2 = u := ⟨_, rfl⟩
  rw [hs1] at hR hst
  obtain ⟨s2, hs2⟩ : ∃ u, (s1.take tStar).2 = u := ⟨_, rfl⟩
  rw [hs2] at hR
  rw [take_yes ht] at hs1
  rw [take_yes hst] at hs2
  have HP : Hid (s.peek = t ∧ t ≠ tNone) := ⟨ht, hne⟩
  obtain ⟨x0, hx0⟩ : ∃ x, (t[0]).toNat = x := ⟨_, rfl⟩
  have hx34 : ((x0 : Int) == 34) = false := by
    have : x0 ≠ 34 := fun e => hq (by rw [hf, ← UInt8.toNat_inj, hx0, e]; rfl)
    simp; omega
  clear ht hp hn hq hf hne
  have hi0 : (0 : Int) < (t.size : Int) := by omega
  have HS1 : Hid ((⟨s.l.tail, s.bad⟩ : St) = s1 ∧ s1.peek = tStar ∧ (⟨s1.l.tail, s1.bad⟩ : St) = s2) := ⟨hs1, hst, hs2⟩
  obtain ⟨F, hF⟩ : ∃ F, s2.begins t (smallL t.data.toList) = F := ⟨_, rfl⟩
  have HF : Hid (s2.begins t ((smallL t.data.toList).drop 0) = F) := hF
  rw [hF] at hR
  have HR : Hid (R = (.node 2 [smallS t] .nil .nil, F)) := hR
  have hus := smallS_size t
  have hsl := small_len t
  clear hs1 hs2 hst hF hR
  go_enter Tryd.func26, Tryd.ntmps26
  go_wp2_with fail
  refine (peek_as t A s w H.out HP.out.1).mono ?_
  rintro _ w1 ⟨rfl, hw1⟩
  subst hw1
  go_wp2_with fail
  refine (takeY_any A s t _ HE.out.2.1 HP.out.1 HP.out.2).mono ?_
  rintro _ w2 ⟨rfl, ha2, hg2⟩
  rw [HS1.out.1] at ha2
  have HE2 : Hid _ := RE.to HE.out ha2 hg2
  clear ha2 hg2 HE H
  go_wp2_with fail
  refine (takeY_any A s1 tStar _ HE2.out.2.1 HS1.out.2.1 (by decide)).mono ?_
  rintro _ w3 ⟨rfl, ha3, hg3⟩
  rw [HS1.out.2.2] at ha3
  have HE3 : Hid _ := RE.to HE2.out ha3 hg3
  clear ha3 hg3 HE2
  have HG3 : Hid (AskIs A s2 w3 ∧ w1.grownBy w3 (some A)) := ⟨HE3.out.2.1, HE3.out.2.2⟩
  clear HE3
  go_wp2
  go_loopw [21] (fun v wr => ∃ (k : Nat) (s' : St), k ≤ t.size ∧ v = .int .i64 k ∧ Hid (AskIs A s' wr ∧ w1.grownBy wr (some A)) ∧ Hid (s'.begins t ((smallL t.data.toList).drop k) = F)) (fun v _ => t.size - (intOf v).toNat)
  case atStart => exact ⟨0, s2, Nat.zero_le _, rfl, HG3, HF⟩
  case round =>
    clear HG3 HF
    obtain ⟨k, s', hk, rfl, HG, hz⟩ := hrel
    by_cases hlt : k < t.size
    · have hlt' : (k : Int) < (t.size : Int) := by omega
      have hku : k < (smallS t).size := by omega
      have hkl : k < (smallL t.data.toList).length := by omega
      have HZ : Hid (∀ b : Bool, (!alnum (smallL t.data.toList)[k] || decide (12 < t.size)) = b → (if b then s'.fails 3 else s').begins t ((smallL t.data.toList).drop (k + 1)) = F) := by
        intro b hb
        rw [← hz.out, begins_step hkl, hb]
      clear hz
      obtain ⟨c, hc⟩ : ∃ c, (smallL t.data.toList)[k] = c := ⟨_, rfl⟩
      rw [hc] at HZ
      obtain ⟨u, hu, huk, hux⟩ : ∃ u : ByteArray, smallS t = u ∧ ∃ h : k < u.size, u[k].toNat = c.toNat := ⟨smallS t, rfl, hku, by rw [smallS_get t k hku, hc]⟩
      have HU : Hid (smallS t = u) := hu
      obtain ⟨x, hx⟩ : ∃ x, c.toNat = x := ⟨_, rfl⟩
      rw [hx] at hux
      have hku' : (k : Int) < (u.size : Int) := by omega
      clear hu hc
      obtain ⟨a1, e1⟩ : ∃ b, decide ((97 : Int) ≤ (x : Int)) = b := ⟨_, rfl⟩
      obtain ⟨a2, e2⟩ : ∃ b, decide ((x : Int) ≤ 122) = b := ⟨_, rfl⟩
      obtain ⟨a3, e3⟩ : ∃ b, decide ((48 : Int) ≤ (x : Int)) = b := ⟨_, rfl⟩
      obtain ⟨a4, e4⟩ : ∃ b, decide ((x : Int) ≤ 57) = b := ⟨_, rfl⟩
      obtain ⟨a5, e5⟩ : ∃ b, decide ((12 : Int) < (t.size : Int)) = b := ⟨_, rfl⟩
      have HB : Hid ((if !(a1 && a2 || a3 && a4) || a5 then s'.fails 3 else s').begins t ((smallL t.data.toList).drop (k + 1)) = F) := by
        refine HZ.out _ ?_
        rw [← e1, ← e2, ← e3, ← e4, ← e5, alnum, hx]
        have g1 : decide (97 ≤ x) = decide ((97 : Int) ≤ (x : Int)) := decide_eq_decide.2 (by omega)
        have g2 : decide (x ≤ 122) = decide ((x : Int) ≤ 122) := decide_eq_decide.2 (by omega)
        have g3 : decide (48 ≤ x) = decide ((48 : Int) ≤ (x : Int)) := decide_eq_decide.2 (by omega)
        have g4 : decide (x ≤ 57) = decide ((x : Int) ≤ 57) := decide_eq_decide.2 (by omega)
        have g5 : decide (12 < t.size) = decide ((12 : Int) < (t.size : Int)) := decide_eq_decide.2 (by omega)
        rw [g1, g2, g3, g4, g5]
      clear HZ
      go_wp2_with fail
      refine (refSmall_any t wr (by omega)).mono ?_
      rintro _ w4 ⟨rfl, hb4⟩
      rw [HU.out]
      have HG4 : Hid (AskIs A s' w4 ∧ w1.grownBy w4 (some A)) := ⟨HG.out.1.below hb4, HG.out.2.trans (grown_of_belowA hb4 _)⟩
      clear hb4 HG
      obtain ⟨b, hb⟩ : ∃ b, (!(a1 && a2 || a3 && a4) || a5) = b := ⟨_, rfl⟩
      rw [hb] at HB
      cases a1 <;> cases a2 <;> cases a3 <;> cases a4 <;> cases a5 <;> cases b <;> first
        | (exfalso; revert hb; decide)
        | (clear hb
           have HB2 : Hid (s'.begins t ((smallL t.data.toList).drop (k + 1)) = F) := HB.out
           go_wp2
           go_roundw
           case rel => exact ⟨k + 1, s', by omega, by go_num, HG4, HB2⟩
           case measure => simp [intOf]; omega)
        | (clear hb
           have HB2 : Hid ((s'.fails 3).begins t ((smallL t.data.toList).drop (k + 1)) = F) := HB.out
           go_wp2_with fail
           refine (fails_any A s' 3 _ HG4.out.1).mono ?_
           rintro _ w5 ⟨rfl, ha5, hg5⟩
           have HG5 : Hid (AskIs A (s'.fails 3) w5 ∧ w1.grownBy w5 (some A)) := ⟨ha5, HG4.out.2.trans hg5⟩
           clear ha5 hg5 HG4
           go_wp2
           go_roundw
           case rel => exact ⟨k + 1, s'.fails 3, by omega, by go_num, HG5, HB2⟩
           case measure => simp [intOf]; omega)
    · have e : s' = F := by
        have h := hz.out
        rw [List.drop_eq_nil_of_le (by omega)] at h
        exact h
      subst e
      go_wp2_with fail
      refine (refSmall_any t wr (by omega)).mono ?_
      rintro _ w4 ⟨rfl, hb4⟩
      have HG4 : Hid (AskIs A s' w4 ∧ w1.grownBy w4 (some A)) := ⟨HG.out.1.below hb4, HG.out.2.trans (grown_of_belowA hb4 _)⟩
      clear hb4 HG
      obtain ⟨u, hu⟩ : ∃ u, smallS t = u := ⟨_, rfl⟩
      rw [hu] at HR ⊢
      clear hu
      have HE6 : Hid _ := leaf_one HG4.out.1 HG4.out.2 2 u
      clear HG4
      go_wp2
      go_ret
      rw [HR.out]
      exact ⟨_, rfl, HE6.out.1, HE6.out.2.1, HE6.out.2.2⟩
end Go.Proofs.YtleegplecdknlaaDoor
