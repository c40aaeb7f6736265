/- What the document takes a text for that looks for something. -/
import Derived.Test.YtleegplecdknlaaDoorAPieces
namespace Go.Proofs.YtleegplecdknlaaDoor
open Go.RowKit

/-- what a text looks for, and what is wrong with it -/
def askS (s : ByteArray) : Qy × Int := match piecesM s s.size 0 with
  | none => (.nil, 3)
  | some L => askM L
theorem askS_none {s : ByteArray} (h : piecesM s s.size 0 = none) : askS s = (.nil, 3) := by rw [askS, h]
theorem askS_some {s : ByteArray} {L : List ByteArray} (h : piecesM s s.size 0 = some L) : askS s = askM L := by rw [askS, h]
theorem ask_new {w : World} {a : Option Addr} {c : Nat} {L : List ByteArray} {B : Nat} (h : w.ownsRow B 9 1 (.slice a L.length c) L.length (sc L)) (hl : L.length ≤ 1000) (hx : ∀ x ∈ L, x.size ≤ 1000) :
    AskIs w.heap.size ⟨L, 0⟩ (w.alloc (.cells #[.slice a L.length c, .int .i64 0] 39)) := by
  have hn := heap_alloc_new w (.cells #[.slice a L.length c, .int .i64 0] 39)
  refine ⟨⟨a, c, by simp, ?_, ?_, hl⟩, by simp, ?_, ?_, by simp, hx⟩
  · rcases h.2 with ⟨e, h0⟩ | ⟨g, cap, cur, e, _, hg, _⟩
    · exact .inl (List.length_eq_zero_iff.1 h0)
    · cases e
      have hgl : g < w.heap.size := (Array.getElem?_eq_some_iff.1 hg).1
      refine .inr ⟨g, 0, rfl, hgl, fun i hi => ?_⟩
      rw [World.cell?_alloc_lt _ _ _ (by exact hgl)]
      have hi' : i < L.length := hi
      have k0 := h.cells (g := g) rfl i (.string L[i]) (by simp [sc, hi'])
      rw [Go.WideShapes.add_plain] at k0
      exact k0
  · rcases h.2 with ⟨e, h0⟩ | ⟨g, cap, cur, e, _, _, hc, _⟩
    · show L.length ≤ c; omega
    · cases e; exact hc
  · simp only [World.frozen?, hn]; simp
  · simp only [World.frozen?, hn]; simp

set_option maxRecDepth 100000 in
set_option maxHeartbeats 4000000 in
theorem ask_any (s : ByteArray) (w : World) (hs : s.size ≤ 1000) : Calls Tryd.prog 4 #[.string s] w fun e w' => ∃ p A, e = .returned (.tuple #[.pointer p, .int .i64 (askS s).2]) ∧ w.heap.size ≤ A ∧ QIs A w' p (askS s).1 ∧ Below w.heap.size w w' := by
  have HTop : Hid (Reads 9 (anyM (oneAt 13)) 0) := any_top
  cases hp : piecesM s s.size 0 with
  | none =>
    have HA : Hid (askS s = (.nil, 3)) := askS_none hp
    have HP : Hid (piecesM s s.size 0 = none) := hp
    clear hp
    go_enter Tryd.func4, Tryd.ntmps4
    go_wp2_with fail
    refine (pieces_any s w hs).mono ?_
    rintro e w1 ⟨hT, hb1⟩
    rw [HP.out] at hT
    rcases hT with ⟨_, rfl⟩ | ⟨L, v, e, _⟩
    · have HB1 : Hid (Below w.heap.size w w1) := hb1
      clear hb1
      go_wp2
      go_ret2
      rw [HA.out]
      exact ⟨none, w.heap.size, rfl, Nat.le_refl _, rfl, HB1.out⟩
    · cases e
  | some L =>
    obtain ⟨q, hq⟩ : ∃ q, (anyM (oneAt 13) ⟨L, 0⟩).1 = q := ⟨_, rfl⟩
    obtain ⟨s2, hs2⟩ : ∃ t, (anyM (oneAt 13) ⟨L, 0⟩).2 = t := ⟨_, rfl⟩
    have HQ : Hid ((anyM (oneAt 13) ⟨L, 0⟩).1 = q ∧ (anyM (oneAt 13) ⟨L, 0⟩).2 = s2) := ⟨hq, hs2⟩
    obtain ⟨hl1, hl2⟩ := pieces_spec s s.size 0 L hp
    have HL : Hid (L.length ≤ 1000 ∧ ∀ x ∈ L, x.size ≤ 1000) := ⟨by omega, fun x hx => by have := hl2 x hx; omega⟩
    have HA : Hid (∀ s3, (if s2.l = [] then s2 else s2.fails 3) = s3 → askS s = (if s3.bad = 0 then q else .nil, s3.bad)) := fun s3 e => by
      rw [askS_some hp]
      unfold askM
      simp only
      rw [hq, hs2, e]
    have HP : Hid (piecesM s s.size 0 = some L) := hp
    clear hp hq hs2 hl1 hl2
    by_cases hl0 : s2.l = []
    · have HA2 : Hid (askS s = (if s2.bad = 0 then q else .nil, s2.bad)) := HA.out s2 (by rw [if_pos hl0])
      have HL0 : Hid (s2.l.length = 0) := by show _ = _; rw [hl0]; rfl
      clear HA hl0
      by_cases hb0 : s2.bad = 0
      · have HA3 : Hid (askS s = (q, 0)) := by show _ = _; rw [HA2.out, if_pos hb0, hb0]
        have HB0 : Hid (s2.bad = 0) := hb0
        clear HA2 hb0
        go_enter Tryd.func4, Tryd.ntmps4
        go_wp2_with fail
        refine (pieces_any s w hs).mono ?_
        rintro e w1 ⟨hT, hb1⟩
        rw [HP.out] at hT
        rcases hT with ⟨e, _⟩ | ⟨L', v, e, rfl, ho⟩
        · cases e
        cases e
        obtain ⟨a, c, rfl⟩ : ∃ a c, v = .slice a L.length c := by
          rcases ho.2 with ⟨rfl, h0⟩ | ⟨g, cap, cur, rfl, _⟩
          · exact ⟨none, 0, by rw [h0]⟩
          · exact ⟨_, cap, rfl⟩
        have HK : Hid _ := ask_new ho HL.out.1 HL.out.2
        have HB1 : Hid (Below w.heap.size w w1) := hb1
        have HBx : Hid (Below w.heap.size w (w1.alloc (.cells #[.slice a L.length c, .int .i64 0] 39))) := hb1.alloc hb1.size _
        clear ho hb1
        go_wp2_with fail
        refine (HTop.out w1.heap.size ⟨L, 0⟩ _ HK.out).mono ?_
        rintro _ w2 ⟨p2, rfl, hq2, ha2, hg2⟩
        rw [HQ.out.1] at hq2
        rw [HQ.out.2] at ha2
        have HQ2 : Hid (QIs w1.heap.size w2 p2 q) := hq2
        have HB2 : Hid (Below w.heap.size w w2) := HBx.out.trans (grown_below hg2 _ HB1.out.size HBx.out.size)
        obtain ⟨⟨a', c', k1, _⟩, k2, _⟩ := ha2
        rw [HL0.out] at k1
        rw [HB0.out] at k2
        have hsz1 := HB1.out.size
        clear hq2 hg2 HK HBx HB1
        go_wp2
        go_ret2
        rw [HA3.out]
        exact ⟨p2, w1.heap.size, rfl, hsz1, HQ2.out, HB2.out⟩
      · have HA3 : Hid (askS s = (.nil, s2.bad)) := by show _ = _; rw [HA2.out, if_neg hb0]
        have d0 : (s2.bad == 0) = false := by simpa using hb0
        clear HA2 hb0
        go_enter Tryd.func4, Tryd.ntmps4
        go_wp2_with fail
        refine (pieces_any s w hs).mono ?_
        rintro e w1 ⟨hT, hb1⟩
        rw [HP.out] at hT
        rcases hT with ⟨e, _⟩ | ⟨L', v, e, rfl, ho⟩
        · cases e
        cases e
        obtain ⟨a, c, rfl⟩ : ∃ a c, v = .slice a L.length c := by
          rcases ho.2 with ⟨rfl, h0⟩ | ⟨g, cap, cur, rfl, _⟩
          · exact ⟨none, 0, by rw [h0]⟩
          · exact ⟨_, cap, rfl⟩
        have HK : Hid _ := ask_new ho HL.out.1 HL.out.2
        have HB1 : Hid (Below w.heap.size w w1) := hb1
        have HBx : Hid (Below w.heap.size w (w1.alloc (.cells #[.slice a L.length c, .int .i64 0] 39))) := hb1.alloc hb1.size _
        clear ho hb1
        go_wp2_with fail
        refine (HTop.out w1.heap.size ⟨L, 0⟩ _ HK.out).mono ?_
        rintro _ w2 ⟨p2, rfl, hq2, ha2, hg2⟩
        rw [HQ.out.1] at hq2
        rw [HQ.out.2] at ha2
        have HQ2 : Hid (QIs w1.heap.size w2 p2 q) := hq2
        have HB2 : Hid (Below w.heap.size w w2) := HBx.out.trans (grown_below hg2 _ HB1.out.size HBx.out.size)
        obtain ⟨⟨a', c', k1, _⟩, k2, _⟩ := ha2
        rw [HL0.out] at k1
        clear hq2 hg2 HK HBx HB1 HQ2
        go_wp2
        go_quiet (fail)
        have HB3 : Hid (Below w.heap.size w (w2.drewN nq)) := below_drewN HB2.out _
        clear HB2
        go_wp2
        go_ret2
        rw [HA3.out]
        exact ⟨none, w.heap.size, rfl, Nat.le_refl _, rfl, HB3.out⟩
    · obtain ⟨s3, hs3⟩ : ∃ t, s2.fails 3 = t := ⟨_, rfl⟩
      have hb3 : s3.bad ≠ 0 := by
        rw [← hs3]; unfold St.fails
        by_cases h : s2.bad = 0
        · rw [if_pos h]; show (3 : Int) ≠ 0; decide
        · rw [if_neg h]; exact h
      have HA3 : Hid (askS s = (.nil, s3.bad)) := by
        show _ = _
        rw [HA.out s3 (by rw [if_neg hl0]; exact hs3), if_neg hb3]
      have d0 : (s3.bad == 0) = false := by simpa using hb3
      have hl1 : s2.l.length ≠ 0 := fun e => hl0 (List.length_eq_zero_iff.1 e)
      have HS3 : Hid (s2.fails 3 = s3) := hs3
      clear HA hl0 hs3 hb3
      go_enter Tryd.func4, Tryd.ntmps4
      go_wp2_with fail
      refine (pieces_any s w hs).mono ?_
      rintro e w1 ⟨hT, hb1⟩
      rw [HP.out] at hT
      rcases hT with ⟨e, _⟩ | ⟨L', v, e, rfl, ho⟩
      · cases e
      cases e
      obtain ⟨a, c, rfl⟩ : ∃ a c, v = .slice a L.length c := by
        rcases ho.2 with ⟨rfl, h0⟩ | ⟨g, cap, cur, rfl, _⟩
        · exact ⟨none, 0, by rw [h0]⟩
        · exact ⟨_, cap, rfl⟩
      have HK : Hid _ := ask_new ho HL.out.1 HL.out.2
      have HB1 : Hid (Below w.heap.size w w1) := hb1
      have HBx : Hid (Below w.heap.size w (w1.alloc (.cells #[.slice a L.length c, .int .i64 0] 39))) := hb1.alloc hb1.size _
      clear ho hb1
      go_wp2_with fail
      refine (HTop.out w1.heap.size ⟨L, 0⟩ _ HK.out).mono ?_
      rintro _ w2 ⟨p2, rfl, hq2, ha2, hg2⟩
      rw [HQ.out.1] at hq2
      rw [HQ.out.2] at ha2
      have HQ2 : Hid (QIs w1.heap.size w2 p2 q) := hq2
      have HB2 : Hid (Below w.heap.size w w2) := HBx.out.trans (grown_below hg2 _ HB1.out.size HBx.out.size)
      have HK2 : Hid (AskIs w1.heap.size s2 w2) := ha2
      have HBw : Hid (w.heap.size ≤ w1.heap.size) := HB1.out.size
      obtain ⟨⟨a', c', k1, _, _, hn3⟩, _⟩ := ha2
      obtain ⟨n, hn⟩ : ∃ n, s2.l.length = n := ⟨_, rfl⟩
      rw [hn] at k1 hl1 hn3
      have d1 : decide ((0 : Int) < (n : Int)) = true := by simp; omega
      clear hq2 hg2 HK HBx HB1 HQ2 hn
      go_wp2_with fail
      refine (fails_any w1.heap.size s2 3 _ HK2.out).mono ?_
      rintro _ w3 ⟨rfl, ha3, hg3⟩
      rw [HS3.out] at ha3
      have HB3 : Hid (Below w.heap.size w w3) := HB2.out.trans (grown_below hg3 _ HBw.out HB2.out.size)
      obtain ⟨_, k3, _⟩ := ha3
      clear hg3 HB2 HK2 k1
      go_wp2
      go_quiet (fail)
      have HB4 : Hid (Below w.heap.size w (w3.drewN nq)) := below_drewN HB3.out _
      clear HB3
      go_wp2
      go_ret2
      rw [HA3.out]
      exact ⟨none, w.heap.size, rfl, Nat.le_refl _, rfl, HB4.out⟩
end Go.Proofs.YtleegplecdknlaaDoor
