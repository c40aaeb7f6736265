/- Part 11 of 35. -/
import Derived.Test.YtbdcbaamjkjhaaaGreatDoorH10
import Derived.Deep.RegionLaw
namespace Go.Proofs.YtbdcbaamjkjhaaaGreatDoor
open Go.RowKit

def pairT (c : Int) (x y : Ex) : List UInt8 := if (pairR pairL c).2.2 then parW (if (pairR pairL c).2.1 = 4 then (pairR pairL c).2.1 + 1 else (pairR pairL c).2.1) x (prX x).1 ++ ([32] ++ ((pairR pairL c).1.data.toList ++ [32])) ++ parW ((pairR pairL c).2.1 + 1) y (prX y).1 else []
theorem pair_lv (c : Int) : 0 ≤ (pairR pairL c).2.1 ∧ (pairR pairL c).2.1 ≤ 8 := by
  unfold pairR
  split
  · rename_i p hp
    have hm := List.mem_of_find?_eq_some hp
    have hall : ∀ q ∈ pairL, 0 ≤ q.2.2 ∧ q.2.2 ≤ 8 := by decide
    exact hall p hm
  · exact ⟨by decide, by decide⟩
set_option maxRecDepth 100000 in
set_option maxHeartbeats 400000 in
theorem wpair_of {c : Int} {v : Vl} {nm : ByteArray} {x y : Ex} (hx : ESp x) (hy : ESp y) : ∀ (b B : Nat) (l : List UInt8) (w : World), WS b l w → TrAt b w (some ⟨B, 0, none⟩) (.node c v nm x y) → l.length + (pairT c x y).length ≤ 1000000 → Calls Tryz.prog 156 #[.pointer (some ⟨b, 0, none⟩), .pointer (some ⟨B, 0, none⟩)] w fun r w' => Puts b l (pairT c x y) w r w' := by
  have HEx : Hid (ESp x) := hx
  have HEy : Hid (ESp y) := hy
  clear hx hy
  intro b B l w hw ht hl
  obtain ⟨R, hR⟩ : ∃ R, pairT c x y = R := ⟨_, rfl⟩
  rw [hR] at hl ⊢
  have H0 : Hid (WS b l w ∧ TrAt b w (some ⟨B, 0, none⟩) (.node c v nm x y) ∧ WK b w w) := ⟨hw, ht, WK.refl _ _⟩
  have HL0 : Hid (l.length + R.length ≤ 1000000) := hl
  have HR0 : Hid (R = pairT c x y) := hR.symm
  clear hw ht hl hR
  go_enter Tryz.func156, Tryz.ntmps156
  obtain ⟨B0, pl3, pr4, e0, hk0, hx0, hy0⟩ := H0.out.2.1.node
  obtain rfl : B = B0 := by injection e0 with e0; injection e0
  have z0w : w.cell? ⟨B, 0, none⟩ = some (.int .i64 c) := by rw [hk0.cell 0]; rfl
  have z1w : w.cell? ⟨B, 1, none⟩ = some (.int .i64 v.k) := by rw [hk0.cell 1]; rfl
  have z2w : w.cell? ⟨B, 2, none⟩ = some (.int .i64 v.n) := by rw [hk0.cell 2]; rfl
  have z3w : w.cell? ⟨B, 3, none⟩ = some (.string v.t) := by rw [hk0.cell 3]; rfl
  have z4w : w.cell? ⟨B, 4, none⟩ = some (.string nm) := by rw [hk0.cell 4]; rfl
  have z5w : w.cell? ⟨B, 5, none⟩ = some (.pointer pl3) := by rw [hk0.cell 5]; rfl
  have z6w : w.cell? ⟨B, 6, none⟩ = some (.pointer pr4) := by rw [hk0.cell 6]; rfl
  have HX1 : Hid (TrAt b w pl3 x) := hx0
  have HY2 : Hid (TrAt b w pr4 y) := hy0
  clear hk0 hx0 hy0 e0
  have hlv := pair_lv c
  obtain ⟨Z, hZ⟩ : ∃ Z, pairR pairL c = Z := ⟨_, rfl⟩
  have HZ : Hid (pairR pairL c = Z) := hZ
  rw [hZ] at hlv
  have HR1 : Hid (R = if Z.2.2 then parW (if Z.2.1 = 4 then Z.2.1 + 1 else Z.2.1) x (prX x).1 ++ ([32] ++ (Z.1.data.toList ++ [32])) ++ parW (Z.2.1 + 1) y (prX y).1 else []) := by show _ = _; rw [HR0.out, ← hZ]; rfl
  clear hZ HR0
  go_wp2_with fail
  refine (paired_any c w H0.out.1.g.pr).mono ?_
  rintro _ w1 ⟨rfl, hb⟩
  have H1 : Hid (WS b l w1 ∧ TrAt b w1 (some ⟨B, 0, none⟩) (.node c v nm x y) ∧ WK b w w1) := ⟨H0.out.1.below hb, H0.out.2.1.keep (hb.mono (Nat.le_of_lt H0.out.1.wr.lt)), WK.of_below hb (Nat.le_of_lt H0.out.1.wr.lt)⟩
  rw [HZ.out]
  clear hb HZ z0w z1w z2w z3w z4w z5w z6w
  obtain ⟨s, n, ok⟩ := Z
  obtain ⟨hn0, hn8⟩ := hlv
  simp only at hn0 hn8
  cases ok
  · have HR : Hid (R = []) := HR1.out
    have HQ : Hid (WS b (l ++ R) w1 ∧ WK b w w1) := ⟨by rw [HR.out, List.append_nil]; exact H1.out.1, H1.out.2.2⟩
    go_wp2
    refine bodyPost_ret (results_none rfl _ _ _) rfl ?_
    exact ⟨rfl, HQ.out.1, HQ.out.2⟩
  · by_cases h4 : n = 4
    · subst h4
      have HR : Hid (R = prN 5 x ++ ([32] ++ (s.data.toList ++ [32])) ++ prN 5 y) := by show _ = _; have h1 := HR1.out; simp only [↓reduceIte] at h1; rw [h1]; rfl
      have HL : Hid (l.length + (prN 5 x ++ ([32] ++ (s.data.toList ++ [32])) ++ prN 5 y).length ≤ 1000000) := by show _ ≤ _; rw [← HR.out]; exact HL0.out
      clear HR1 HL0
      obtain ⟨B0, pl7, pr8, e0, hk0, hx0, hy0⟩ := H1.out.2.1.node
      obtain rfl : B = B0 := by injection e0 with e0; injection e0
      have z0w1 : w1.cell? ⟨B, 0, none⟩ = some (.int .i64 c) := by rw [hk0.cell 0]; rfl
      have z1w1 : w1.cell? ⟨B, 1, none⟩ = some (.int .i64 v.k) := by rw [hk0.cell 1]; rfl
      have z2w1 : w1.cell? ⟨B, 2, none⟩ = some (.int .i64 v.n) := by rw [hk0.cell 2]; rfl
      have z3w1 : w1.cell? ⟨B, 3, none⟩ = some (.string v.t) := by rw [hk0.cell 3]; rfl
      have z4w1 : w1.cell? ⟨B, 4, none⟩ = some (.string nm) := by rw [hk0.cell 4]; rfl
      have z5w1 : w1.cell? ⟨B, 5, none⟩ = some (.pointer pl7) := by rw [hk0.cell 5]; rfl
      have z6w1 : w1.cell? ⟨B, 6, none⟩ = some (.pointer pr8) := by rw [hk0.cell 6]; rfl
      have HX5 : Hid (TrAt b w1 pl7 x) := hx0
      have HY6 : Hid (TrAt b w1 pr8 y) := hy0
      clear hk0 hx0 hy0 e0
      go_wp2_with fail
      refine (HEx.out b pl7 5 _ w1 H1.out.1 HX5.out (by have h9 := HL.out; simp only [List.length_append, List.length_cons, List.length_nil] at h9 ⊢; omega)).mono ?_
      rintro _ w9 ⟨rfl, h2, h3⟩
      have H10 : Hid (WS b (l ++ prN 5 x) w9 ∧ TrAt b w9 (some ⟨B, 0, none⟩) (.node c v nm x y) ∧ WK b w w9) := ⟨h2, H1.out.2.1.keep h3.below, H1.out.2.2.trans h3⟩
      clear h2 h3
      go_wp2_with fail
      refine (put3 b _ ⟨#[32]⟩ s ⟨#[32]⟩ w9 H10.out.1 (by have h9 := HL.out; simp only [List.length_append, List.length_cons, List.length_nil] at h9 ⊢; omega)).mono ?_
      rintro _ w11 ⟨rfl, h2, h3⟩
      have H12 : Hid (WS b (l ++ prN 5 x ++ ([32] ++ (s.data.toList ++ [32]))) w11 ∧ TrAt b w11 (some ⟨B, 0, none⟩) (.node c v nm x y) ∧ WK b w w11) := ⟨h2, H10.out.2.1.keep h3.below, H10.out.2.2.trans h3⟩
      clear h2 h3
      obtain ⟨B0, pl15, pr16, e0, hk0, hx0, hy0⟩ := H12.out.2.1.node
      obtain rfl : B = B0 := by injection e0 with e0; injection e0
      have z0w11 : w11.cell? ⟨B, 0, none⟩ = some (.int .i64 c) := by rw [hk0.cell 0]; rfl
      have z1w11 : w11.cell? ⟨B, 1, none⟩ = some (.int .i64 v.k) := by rw [hk0.cell 1]; rfl
      have z2w11 : w11.cell? ⟨B, 2, none⟩ = some (.int .i64 v.n) := by rw [hk0.cell 2]; rfl
      have z3w11 : w11.cell? ⟨B, 3, none⟩ = some (.string v.t) := by rw [hk0.cell 3]; rfl
      have z4w11 : w11.cell? ⟨B, 4, none⟩ = some (.string nm) := by rw [hk0.cell 4]; rfl
      have z5w11 : w11.cell? ⟨B, 5, none⟩ = some (.pointer pl15) := by rw [hk0.cell 5]; rfl
      have z6w11 : w11.cell? ⟨B, 6, none⟩ = some (.pointer pr16) := by rw [hk0.cell 6]; rfl
      have HX13 : Hid (TrAt b w11 pl15 x) := hx0
      have HY14 : Hid (TrAt b w11 pr16 y) := hy0
      clear hk0 hx0 hy0 e0
      go_wp2_with fail
      refine (HEy.out b pr16 5 _ w11 H12.out.1 HY14.out (by have h9 := HL.out; simp only [List.length_append, List.length_cons, List.length_nil] at h9 ⊢; omega)).mono ?_
      rintro _ w17 ⟨rfl, h2, h3⟩
      have H18 : Hid (WS b (l ++ prN 5 x ++ ([32] ++ (s.data.toList ++ [32])) ++ prN 5 y) w17 ∧ TrAt b w17 (some ⟨B, 0, none⟩) (.node c v nm x y) ∧ WK b w w17) := ⟨h2, H12.out.2.1.keep h3.below, H12.out.2.2.trans h3⟩
      clear h2 h3
      have HQ : Hid (WS b (l ++ R) w17 ∧ WK b w w17) := ⟨by rw [HR.out]; simpa [List.append_assoc] using H18.out.1, H18.out.2.2⟩
      go_wp2
      go_end0
      exact ⟨rfl, HQ.out.1, HQ.out.2⟩
    · have d4 := beq_f h4
      have HR : Hid (R = prN n x ++ ([32] ++ (s.data.toList ++ [32])) ++ prN (n + 1) y) := by show _ = _; have h1 := HR1.out; simp only [↓reduceIte, if_neg h4] at h1; rw [h1]; rfl
      have HL : Hid (l.length + (prN n x ++ ([32] ++ (s.data.toList ++ [32])) ++ prN (n + 1) y).length ≤ 1000000) := by show _ ≤ _; rw [← HR.out]; exact HL0.out
      clear HR1 HL0
      obtain ⟨B0, pl21, pr22, e0, hk0, hx0, hy0⟩ := H1.out.2.1.node
      obtain rfl : B = B0 := by injection e0 with e0; injection e0
      have z0w1 : w1.cell? ⟨B, 0, none⟩ = some (.int .i64 c) := by rw [hk0.cell 0]; rfl
      have z1w1 : w1.cell? ⟨B, 1, none⟩ = some (.int .i64 v.k) := by rw [hk0.cell 1]; rfl
      have z2w1 : w1.cell? ⟨B, 2, none⟩ = some (.int .i64 v.n) := by rw [hk0.cell 2]; rfl
      have z3w1 : w1.cell? ⟨B, 3, none⟩ = some (.string v.t) := by rw [hk0.cell 3]; rfl
      have z4w1 : w1.cell? ⟨B, 4, none⟩ = some (.string nm) := by rw [hk0.cell 4]; rfl
      have z5w1 : w1.cell? ⟨B, 5, none⟩ = some (.pointer pl21) := by rw [hk0.cell 5]; rfl
      have z6w1 : w1.cell? ⟨B, 6, none⟩ = some (.pointer pr22) := by rw [hk0.cell 6]; rfl
      have HX19 : Hid (TrAt b w1 pl21 x) := hx0
      have HY20 : Hid (TrAt b w1 pr22 y) := hy0
      clear hk0 hx0 hy0 e0
      go_wp2_with fail
      refine (HEx.out b pl21 n _ w1 H1.out.1 HX19.out (by have h9 := HL.out; simp only [List.length_append, List.length_cons, List.length_nil] at h9 ⊢; omega)).mono ?_
      rintro _ w23 ⟨rfl, h2, h3⟩
      have H24 : Hid (WS b (l ++ prN n x) w23 ∧ TrAt b w23 (some ⟨B, 0, none⟩) (.node c v nm x y) ∧ WK b w w23) := ⟨h2, H1.out.2.1.keep h3.below, H1.out.2.2.trans h3⟩
      clear h2 h3
      go_wp2_with fail
      refine (put3 b _ ⟨#[32]⟩ s ⟨#[32]⟩ w23 H24.out.1 (by have h9 := HL.out; simp only [List.length_append, List.length_cons, List.length_nil] at h9 ⊢; omega)).mono ?_
      rintro _ w25 ⟨rfl, h2, h3⟩
      have H26 : Hid (WS b (l ++ prN n x ++ ([32] ++ (s.data.toList ++ [32]))) w25 ∧ TrAt b w25 (some ⟨B, 0, none⟩) (.node c v nm x y) ∧ WK b w w25) := ⟨h2, H24.out.2.1.keep h3.below, H24.out.2.2.trans h3⟩
      clear h2 h3
      obtain ⟨B0, pl29, pr30, e0, hk0, hx0, hy0⟩ := H26.out.2.1.node
      obtain rfl : B = B0 := by injection e0 with e0; injection e0
      have z0w25 : w25.cell? ⟨B, 0, none⟩ = some (.int .i64 c) := by rw [hk0.cell 0]; rfl
      have z1w25 : w25.cell? ⟨B, 1, none⟩ = some (.int .i64 v.k) := by rw [hk0.cell 1]; rfl
      have z2w25 : w25.cell? ⟨B, 2, none⟩ = some (.int .i64 v.n) := by rw [hk0.cell 2]; rfl
      have z3w25 : w25.cell? ⟨B, 3, none⟩ = some (.string v.t) := by rw [hk0.cell 3]; rfl
      have z4w25 : w25.cell? ⟨B, 4, none⟩ = some (.string nm) := by rw [hk0.cell 4]; rfl
      have z5w25 : w25.cell? ⟨B, 5, none⟩ = some (.pointer pl29) := by rw [hk0.cell 5]; rfl
      have z6w25 : w25.cell? ⟨B, 6, none⟩ = some (.pointer pr30) := by rw [hk0.cell 6]; rfl
      have HX27 : Hid (TrAt b w25 pl29 x) := hx0
      have HY28 : Hid (TrAt b w25 pr30 y) := hy0
      clear hk0 hx0 hy0 e0
      go_wp2_with fail
      refine (HEy.out b pr30 (n + 1) _ w25 H26.out.1 HY28.out (by have h9 := HL.out; simp only [List.length_append, List.length_cons, List.length_nil] at h9 ⊢; omega)).mono ?_
      rintro _ w31 ⟨rfl, h2, h3⟩
      have H32 : Hid (WS b (l ++ prN n x ++ ([32] ++ (s.data.toList ++ [32])) ++ prN (n + 1) y) w31 ∧ TrAt b w31 (some ⟨B, 0, none⟩) (.node c v nm x y) ∧ WK b w w31) := ⟨h2, H26.out.2.1.keep h3.below, H26.out.2.2.trans h3⟩
      clear h2 h3
      have HQ : Hid (WS b (l ++ R) w31 ∧ WK b w w31) := ⟨by rw [HR.out]; simpa [List.append_assoc] using H32.out.1, H32.out.2.2⟩
      go_wp2
      go_end0
      exact ⟨rfl, HQ.out.1, HQ.out.2⟩
end Go.Proofs.YtbdcbaamjkjhaaaGreatDoor
namespace Go.Proofs.YtbdcbaamjkjhaaaGreatDoor
open Go.RowKit

def notT (x : Ex) : List UInt8 := if x.code = 5 then (prX x).2 ++ [32, 105, 115, 32, 110, 111, 116, 32, 110, 117, 108, 108] else [110, 111, 116, 32] ++ parW 3 x (prX x).1
set_option maxRecDepth 100000 in
set_option maxHeartbeats 400000 in
theorem wnot_nil {c : Int} {v : Vl} {nm : ByteArray} {y : Ex} : ∀ (b B : Nat) (l : List UInt8) (w : World), WS b l w → TrAt b w (some ⟨B, 0, none⟩) (.node c v nm .nil y) → l.length + (notT .nil).length ≤ 1000000 → Calls Tryz.prog 155 #[.pointer (some ⟨b, 0, none⟩), .pointer (some ⟨B, 0, none⟩)] w fun r w' => Puts b l (notT .nil) w r w' := by
  have HEx : Hid (ESp .nil) := wexpr_nil
  intro b B l w hw ht hl
  obtain ⟨R, hR⟩ : ∃ R, notT .nil = R := ⟨_, rfl⟩
  rw [hR] at hl ⊢
  have H0 : Hid (WS b l w ∧ TrAt b w (some ⟨B, 0, none⟩) (.node c v nm .nil y) ∧ WK b w w) := ⟨hw, ht, WK.refl _ _⟩
  have HL0 : Hid (l.length + R.length ≤ 1000000) := hl
  have HR0 : Hid (R = notT .nil) := hR.symm
  clear hw ht hl hR
  go_enter Tryz.func155, Tryz.ntmps155
  have HR : Hid (R = [110, 111, 116, 32] ++ prN 3 .nil) := HR0.out
  have HL : Hid (l.length + ([110, 111, 116, 32] ++ prN 3 .nil).length ≤ 1000000) := by show _ ≤ _; rw [← HR.out]; exact HL0.out
  clear HR0 HL0
  obtain ⟨B0, pl3, pr4, e0, hk0, hx0, hy0⟩ := H0.out.2.1.node
  obtain rfl : B = B0 := by injection e0 with e0; injection e0
  have z0w : w.cell? ⟨B, 0, none⟩ = some (.int .i64 c) := by rw [hk0.cell 0]; rfl
  have z1w : w.cell? ⟨B, 1, none⟩ = some (.int .i64 v.k) := by rw [hk0.cell 1]; rfl
  have z2w : w.cell? ⟨B, 2, none⟩ = some (.int .i64 v.n) := by rw [hk0.cell 2]; rfl
  have z3w : w.cell? ⟨B, 3, none⟩ = some (.string v.t) := by rw [hk0.cell 3]; rfl
  have z4w : w.cell? ⟨B, 4, none⟩ = some (.string nm) := by rw [hk0.cell 4]; rfl
  have z5w : w.cell? ⟨B, 5, none⟩ = some (.pointer pl3) := by rw [hk0.cell 5]; rfl
  have z6w : w.cell? ⟨B, 6, none⟩ = some (.pointer pr4) := by rw [hk0.cell 6]; rfl
  have HX1 : Hid (TrAt b w pl3 .nil) := hx0
  have HY2 : Hid (TrAt b w pr4 y) := hy0
  clear hk0 hx0 hy0 e0
  obtain rfl := HX1.out.nil
  go_wp2_with fail
  refine (put1 b _ ⟨#[110, 111, 116, 32]⟩ w H0.out.1 (by have h9 := HL.out; simp only [List.length_append, List.length_cons, List.length_nil] at h9 ⊢; omega)).mono ?_
  rintro _ w5 ⟨rfl, h2, h3⟩
  have H6 : Hid (WS b (l ++ [110, 111, 116, 32]) w5 ∧ TrAt b w5 (some ⟨B, 0, none⟩) (.node c v nm .nil y) ∧ WK b w w5) := ⟨h2, H0.out.2.1.keep h3.below, H0.out.2.2.trans h3⟩
  clear h2 h3
  obtain ⟨B0, pl9, pr10, e0, hk0, hx0, hy0⟩ := H6.out.2.1.node
  obtain rfl : B = B0 := by injection e0 with e0; injection e0
  have z0w5 : w5.cell? ⟨B, 0, none⟩ = some (.int .i64 c) := by rw [hk0.cell 0]; rfl
  have z1w5 : w5.cell? ⟨B, 1, none⟩ = some (.int .i64 v.k) := by rw [hk0.cell 1]; rfl
  have z2w5 : w5.cell? ⟨B, 2, none⟩ = some (.int .i64 v.n) := by rw [hk0.cell 2]; rfl
  have z3w5 : w5.cell? ⟨B, 3, none⟩ = some (.string v.t) := by rw [hk0.cell 3]; rfl
  have z4w5 : w5.cell? ⟨B, 4, none⟩ = some (.string nm) := by rw [hk0.cell 4]; rfl
  have z5w5 : w5.cell? ⟨B, 5, none⟩ = some (.pointer pl9) := by rw [hk0.cell 5]; rfl
  have z6w5 : w5.cell? ⟨B, 6, none⟩ = some (.pointer pr10) := by rw [hk0.cell 6]; rfl
  have HX7 : Hid (TrAt b w5 pl9 .nil) := hx0
  have HY8 : Hid (TrAt b w5 pr10 y) := hy0
  clear hk0 hx0 hy0 e0
  go_wp2_with fail
  refine (HEx.out b pl9 3 _ w5 H6.out.1 HX7.out (by have h9 := HL.out; simp only [List.length_append, List.length_cons, List.length_nil] at h9 ⊢; omega)).mono ?_
  rintro _ w11 ⟨rfl, h2, h3⟩
  have H12 : Hid (WS b (l ++ [110, 111, 116, 32] ++ prN 3 .nil) w11 ∧ TrAt b w11 (some ⟨B, 0, none⟩) (.node c v nm .nil y) ∧ WK b w w11) := ⟨h2, H6.out.2.1.keep h3.below, H6.out.2.2.trans h3⟩
  clear h2 h3
  have HQ : Hid (WS b (l ++ R) w11 ∧ WK b w w11) := ⟨by rw [HR.out]; simpa [List.append_assoc] using H12.out.1, H12.out.2.2⟩
  go_wp2
  go_end0
  exact ⟨rfl, HQ.out.1, HQ.out.2⟩
set_option maxRecDepth 100000 in
set_option maxHeartbeats 400000 in
theorem wnot_node {c d : Int} {v v2 : Vl} {nm nm2 : ByteArray} {x2 y2 y : Ex} (hx : ESp (.node d v2 nm2 x2 y2)) (hl2 : ESp x2) : ∀ (b B : Nat) (l : List UInt8) (w : World), WS b l w → TrAt b w (some ⟨B, 0, none⟩) (.node c v nm (.node d v2 nm2 x2 y2) y) → l.length + (notT (.node d v2 nm2 x2 y2)).length ≤ 1000000 → Calls Tryz.prog 155 #[.pointer (some ⟨b, 0, none⟩), .pointer (some ⟨B, 0, none⟩)] w fun r w' => Puts b l (notT (.node d v2 nm2 x2 y2)) w r w' := by
  have HEx : Hid (ESp (.node d v2 nm2 x2 y2)) := hx
  have HEl : Hid (ESp x2) := hl2
  clear hx hl2
  intro b B l w hw ht hl
  obtain ⟨R, hR⟩ : ∃ R, notT (.node d v2 nm2 x2 y2) = R := ⟨_, rfl⟩
  rw [hR] at hl ⊢
  have H0 : Hid (WS b l w ∧ TrAt b w (some ⟨B, 0, none⟩) (.node c v nm (.node d v2 nm2 x2 y2) y) ∧ WK b w w) := ⟨hw, ht, WK.refl _ _⟩
  have HL0 : Hid (l.length + R.length ≤ 1000000) := hl
  have HR0 : Hid (R = notT (.node d v2 nm2 x2 y2)) := hR.symm
  clear hw ht hl hR
  go_enter Tryz.func155, Tryz.ntmps155
  obtain ⟨B0, pl15, pr16, e0, hk0, hx0, hy0⟩ := H0.out.2.1.node
  obtain rfl : B = B0 := by injection e0 with e0; injection e0
  have z0w : w.cell? ⟨B, 0, none⟩ = some (.int .i64 c) := by rw [hk0.cell 0]; rfl
  have z1w : w.cell? ⟨B, 1, none⟩ = some (.int .i64 v.k) := by rw [hk0.cell 1]; rfl
  have z2w : w.cell? ⟨B, 2, none⟩ = some (.int .i64 v.n) := by rw [hk0.cell 2]; rfl
  have z3w : w.cell? ⟨B, 3, none⟩ = some (.string v.t) := by rw [hk0.cell 3]; rfl
  have z4w : w.cell? ⟨B, 4, none⟩ = some (.string nm) := by rw [hk0.cell 4]; rfl
  have z5w : w.cell? ⟨B, 5, none⟩ = some (.pointer pl15) := by rw [hk0.cell 5]; rfl
  have z6w : w.cell? ⟨B, 6, none⟩ = some (.pointer pr16) := by rw [hk0.cell 6]; rfl
  have HX13 : Hid (TrAt b w pl15 (.node d v2 nm2 x2 y2)) := hx0
  have HY14 : Hid (TrAt b w pr16 y) := hy0
  clear hk0 hx0 hy0 e0
  obtain ⟨B1, pl2, pr2, e1, hk1, hx1, hy1⟩ := HX13.out.node
  have y0w : w.cell? ⟨B1, 0, none⟩ = some (.int .i64 d) := by rw [hk1.cell 0]; rfl
  have y5w : w.cell? ⟨B1, 5, none⟩ = some (.pointer pl2) := by rw [hk1.cell 5]; rfl
  have HX1 : Hid (TrAt b w pl2 x2) := hx1
  subst e1
  clear hk1 hx1 hy1
  by_cases h5 : d = 5
  · subst h5
    have HR : Hid (R = prN 5 x2 ++ [32, 105, 115, 32, 110, 111, 116, 32, 110, 117, 108, 108]) := HR0.out
    have HL : Hid (l.length + (prN 5 x2 ++ [32, 105, 115, 32, 110, 111, 116, 32, 110, 117, 108, 108]).length ≤ 1000000) := by show _ ≤ _; rw [← HR.out]; exact HL0.out
    clear HR0 HL0
    go_wp2_with fail
    refine (HEl.out b pl2 5 _ w H0.out.1 HX1.out (by have h9 := HL.out; simp only [List.length_append, List.length_cons, List.length_nil] at h9 ⊢; omega)).mono ?_
    rintro _ w17 ⟨rfl, h2, h3⟩
    have H18 : Hid (WS b (l ++ prN 5 x2) w17 ∧ TrAt b w17 (some ⟨B, 0, none⟩) (.node c v nm (.node 5 v2 nm2 x2 y2) y) ∧ WK b w w17) := ⟨h2, H0.out.2.1.keep h3.below, H0.out.2.2.trans h3⟩
    clear h2 h3
    go_wp2_with fail
    refine (put1 b _ ⟨#[32, 105, 115, 32, 110, 111, 116, 32, 110, 117, 108, 108]⟩ w17 H18.out.1 (by have h9 := HL.out; simp only [List.length_append, List.length_cons, List.length_nil] at h9 ⊢; omega)).mono ?_
    rintro _ w19 ⟨rfl, h2, h3⟩
    have H20 : Hid (WS b (l ++ prN 5 x2 ++ [32, 105, 115, 32, 110, 111, 116, 32, 110, 117, 108, 108]) w19 ∧ TrAt b w19 (some ⟨B, 0, none⟩) (.node c v nm (.node 5 v2 nm2 x2 y2) y) ∧ WK b w w19) := ⟨h2, H18.out.2.1.keep h3.below, H18.out.2.2.trans h3⟩
    clear h2 h3
    have HQ : Hid (WS b (l ++ R) w19 ∧ WK b w w19) := ⟨by rw [HR.out]; simpa [List.append_assoc] using H20.out.1, H20.out.2.2⟩
    go_wp2
    refine bodyPost_ret (results_none rfl _ _ _) rfl ?_
    exact ⟨rfl, HQ.out.1, HQ.out.2⟩
  · have d5 := beq_f h5
    have HR : Hid (R = [110, 111, 116, 32] ++ prN 3 (.node d v2 nm2 x2 y2)) := by show _ = _; rw [HR0.out]; exact if_neg h5
    have HL : Hid (l.length + ([110, 111, 116, 32] ++ prN 3 (.node d v2 nm2 x2 y2)).length ≤ 1000000) := by show _ ≤ _; rw [← HR.out]; exact HL0.out
    clear HR0 HL0
    go_wp2_with fail
    refine (put1 b _ ⟨#[110, 111, 116, 32]⟩ w H0.out.1 (by have h9 := HL.out; simp only [List.length_append, List.length_cons, List.length_nil] at h9 ⊢; omega)).mono ?_
    rintro _ w21 ⟨rfl, h2, h3⟩
    have H22 : Hid (WS b (l ++ [110, 111, 116, 32]) w21 ∧ TrAt b w21 (some ⟨B, 0, none⟩) (.node c v nm (.node d v2 nm2 x2 y2) y) ∧ WK b w w21) := ⟨h2, H0.out.2.1.keep h3.below, H0.out.2.2.trans h3⟩
    clear h2 h3
    obtain ⟨B0, pl25, pr26, e0, hk0, hx0, hy0⟩ := H22.out.2.1.node
    obtain rfl : B = B0 := by injection e0 with e0; injection e0
    have z0w21 : w21.cell? ⟨B, 0, none⟩ = some (.int .i64 c) := by rw [hk0.cell 0]; rfl
    have z1w21 : w21.cell? ⟨B, 1, none⟩ = some (.int .i64 v.k) := by rw [hk0.cell 1]; rfl
    have z2w21 : w21.cell? ⟨B, 2, none⟩ = some (.int .i64 v.n) := by rw [hk0.cell 2]; rfl
    have z3w21 : w21.cell? ⟨B, 3, none⟩ = some (.string v.t) := by rw [hk0.cell 3]; rfl
    have z4w21 : w21.cell? ⟨B, 4, none⟩ = some (.string nm) := by rw [hk0.cell 4]; rfl
    have z5w21 : w21.cell? ⟨B, 5, none⟩ = some (.pointer pl25) := by rw [hk0.cell 5]; rfl
    have z6w21 : w21.cell? ⟨B, 6, none⟩ = some (.pointer pr26) := by rw [hk0.cell 6]; rfl
    have HX23 : Hid (TrAt b w21 pl25 (.node d v2 nm2 x2 y2)) := hx0
    have HY24 : Hid (TrAt b w21 pr26 y) := hy0
    clear hk0 hx0 hy0 e0
    go_wp2_with fail
    refine (HEx.out b pl25 3 _ w21 H22.out.1 HX23.out (by have h9 := HL.out; simp only [List.length_append, List.length_cons, List.length_nil] at h9 ⊢; omega)).mono ?_
    rintro _ w27 ⟨rfl, h2, h3⟩
    have H28 : Hid (WS b (l ++ [110, 111, 116, 32] ++ prN 3 (.node d v2 nm2 x2 y2)) w27 ∧ TrAt b w27 (some ⟨B, 0, none⟩) (.node c v nm (.node d v2 nm2 x2 y2) y) ∧ WK b w w27) := ⟨h2, H22.out.2.1.keep h3.below, H22.out.2.2.trans h3⟩
    clear h2 h3
    have HQ : Hid (WS b (l ++ R) w27 ∧ WK b w w27) := ⟨by rw [HR.out]; simpa [List.append_assoc] using H28.out.1, H28.out.2.2⟩
    go_wp2
    go_end0
    exact ⟨rfl, HQ.out.1, HQ.out.2⟩
end Go.Proofs.YtbdcbaamjkjhaaaGreatDoor
namespace Go.Proofs.YtbdcbaamjkjhaaaGreatDoor
open Go.RowKit

theorem put2 (b : Nat) (l : List UInt8) (s t : ByteArray) (w : World) (h : WS b l w) (hlen : l.length + (s.data.toList ++ t.data.toList).length ≤ 1000000) :
    Calls Tryz.prog 53 #[.pointer (some ⟨b, 0, none⟩), .slice (some ⟨w.heap.size, 0, none⟩) 2 2] (w.alloc (.cells #[.string s, .string t] 9)) fun e w' => Puts b l (s.data.toList ++ t.data.toList) w e w' := by
  have e : bytesOf [s, t] = s.data.toList ++ t.data.toList := by simp [bytesOf]
  have := puts_S b l [s, t] w h (by rw [e]; exact hlen) (by simp)
  rw [e] at this
  exact this
theorem prX_1 (v : Vl) (nm : ByteArray) (x y : Ex) : (prX (.node 1 v nm x y)).1 = litL v := by rw [prX]; simp only [↓reduceIte]; (try rfl)
theorem prX_2 (v : Vl) (nm : ByteArray) (x y : Ex) : (prX (.node 2 v nm x y)).1 = nm.data.toList := by rw [prX]; simp only [Int.reduceEq, ↓reduceIte]; (try rfl)
theorem prX_3 (v : Vl) (nm : ByteArray) (x y : Ex) : (prX (.node 3 v nm x y)).1 = [45, 32] ++ prN 7 x := by rw [prX]; simp only [Int.reduceEq, ↓reduceIte]; (try rfl)
theorem prX_4 (v : Vl) (nm : ByteArray) (x y : Ex) : (prX (.node 4 v nm x y)).1 = notT x := by rw [prX]; simp only [Int.reduceEq, ↓reduceIte]; (try rfl)
theorem prX_5 (v : Vl) (nm : ByteArray) (x y : Ex) : (prX (.node 5 v nm x y)).1 = prN 5 x ++ [32, 105, 115, 32, 110, 117, 108, 108] := by rw [prX]; simp only [Int.reduceEq, ↓reduceIte]; (try rfl)
theorem prX_17 (v : Vl) (nm : ByteArray) (x y : Ex) : (prX (.node 17 v nm x y)).1 = prN 5 x ++ ([32, 109, 97, 116, 99, 104, 32] ++ litL v) := by rw [prX]; simp only [Int.reduceEq, ↓reduceIte]; (try rfl)
theorem prX_two {c : Int} (v : Vl) (nm : ByteArray) (x y : Ex) (h1 : ¬ c = 1) (h2 : ¬ c = 2) (h3 : ¬ c = 3) (h4 : ¬ c = 4) (h5 : ¬ c = 5) (h6 : ¬ c = 17) : (prX (.node c v nm x y)).1 = pairT c x y := by rw [prX]; simp only [if_neg h1, if_neg h2, if_neg h3, if_neg h4, if_neg h5, if_neg h6]; rfl
def NSp (c : Int) (v : Vl) (nm : ByteArray) (x y : Ex) : Prop := ∀ (b B : Nat) (l : List UInt8) (w : World), WS b l w → TrAt b w (some ⟨B, 0, none⟩) (.node c v nm x y) → l.length + (notT x).length ≤ 1000000 → Calls Tryz.prog 155 #[.pointer (some ⟨b, 0, none⟩), .pointer (some ⟨B, 0, none⟩)] w fun r w' => Puts b l (notT x) w r w'
def PSp (c : Int) (v : Vl) (nm : ByteArray) (x y : Ex) : Prop := ∀ (b B : Nat) (l : List UInt8) (w : World), WS b l w → TrAt b w (some ⟨B, 0, none⟩) (.node c v nm x y) → l.length + (pairT c x y).length ≤ 1000000 → Calls Tryz.prog 156 #[.pointer (some ⟨b, 0, none⟩), .pointer (some ⟨B, 0, none⟩)] w fun r w' => Puts b l (pairT c x y) w r w'
set_option maxRecDepth 100000 in
set_option maxHeartbeats 400000 in
theorem wbare_of {c : Int} {v : Vl} {nm : ByteArray} {x y : Ex} (hv : VlOk v) (hx : ESp x) (hn : NSp c v nm x y) (hp : PSp c v nm x y) : BSp (.node c v nm x y) := by
  have HEx : Hid (ESp x) := hx
  have HV : Hid (VlOk v) := hv
  have HNot : Hid (NSp c v nm x y) := hn
  have HPair : Hid (PSp c v nm x y) := hp
  clear hv hx hn hp
  intro b B l w hw ht hl
  obtain ⟨R, hR⟩ : ∃ R, (prX (.node c v nm x y)).1 = R := ⟨_, rfl⟩
  rw [hR] at hl ⊢
  have H0 : Hid (WS b l w ∧ TrAt b w (some ⟨B, 0, none⟩) (.node c v nm x y) ∧ WK b w w) := ⟨hw, ht, WK.refl _ _⟩
  have HL0 : Hid (l.length + R.length ≤ 1000000) := hl
  have HR0 : Hid (R = (prX (.node c v nm x y)).1) := hR.symm
  clear hw ht hl hR
  go_enter Tryz.func136, Tryz.ntmps136
  obtain ⟨B0, pl3, pr4, e0, hk0, hx0, hy0⟩ := H0.out.2.1.node
  obtain rfl : B = B0 := by injection e0 with e0; injection e0
  have z0w : w.cell? ⟨B, 0, none⟩ = some (.int .i64 c) := by rw [hk0.cell 0]; rfl
  have z1w : w.cell? ⟨B, 1, none⟩ = some (.int .i64 v.k) := by rw [hk0.cell 1]; rfl
  have z2w : w.cell? ⟨B, 2, none⟩ = some (.int .i64 v.n) := by rw [hk0.cell 2]; rfl
  have z3w : w.cell? ⟨B, 3, none⟩ = some (.string v.t) := by rw [hk0.cell 3]; rfl
  have z4w : w.cell? ⟨B, 4, none⟩ = some (.string nm) := by rw [hk0.cell 4]; rfl
  have z5w : w.cell? ⟨B, 5, none⟩ = some (.pointer pl3) := by rw [hk0.cell 5]; rfl
  have z6w : w.cell? ⟨B, 6, none⟩ = some (.pointer pr4) := by rw [hk0.cell 6]; rfl
  have HX1 : Hid (TrAt b w pl3 x) := hx0
  have HY2 : Hid (TrAt b w pr4 y) := hy0
  clear hk0 hx0 hy0 e0
  by_cases hc1 : c = 1
  · subst hc1
    have HR : Hid (R = litL v) := HR0.out.trans (prX_1 v nm x y)
    have HL : Hid (l.length + (litL v).length ≤ 1000000) := by show _ ≤ _; rw [← HR.out]; exact HL0.out
    clear HR0 HL0
    go_wp2_with fail
    refine (literal_any v HV.out w H0.out.1.g).mono ?_
    rintro _ w5 ⟨⟨s, rfl, hs⟩, hb⟩
    have HS : Hid (s.data.toList = litL v) := hs
    have H6 : Hid (WS b (l) w5 ∧ TrAt b w5 (some ⟨B, 0, none⟩) (.node 1 v nm x y) ∧ WK b w w5) := ⟨H0.out.1.below hb, H0.out.2.1.keep (hb.mono (Nat.le_of_lt H0.out.1.wr.lt)), H0.out.2.2.trans (WK.of_below hb (Nat.le_of_lt H0.out.1.wr.lt))⟩
    clear hb hs
    go_wp2_with fail
    refine (put1 b _ s w5 H6.out.1 (by have h9 := HL.out; rw [HS.out]; (try simp only [List.length_append, List.length_cons, List.length_nil] at h9 ⊢); omega)).mono ?_
    rintro _ w7 ⟨rfl, h2, h3⟩
    have H8 : Hid (WS b (l ++ litL v) w7 ∧ TrAt b w7 (some ⟨B, 0, none⟩) (.node 1 v nm x y) ∧ WK b w w7) := ⟨by rw [← HS.out]; exact h2, H6.out.2.1.keep h3.below, H6.out.2.2.trans h3⟩
    clear h2 h3
    have HQ : Hid (WS b (l ++ R) w7 ∧ WK b w w7) := ⟨by rw [HR.out]; simpa [List.append_assoc] using H8.out.1, H8.out.2.2⟩
    go_wp2
    go_end0
    exact ⟨rfl, HQ.out.1, HQ.out.2⟩
  have d1 := beq_f hc1
  by_cases hc2 : c = 2
  · subst hc2
    have HR : Hid (R = nm.data.toList) := HR0.out.trans (prX_2 v nm x y)
    have HL : Hid (l.length + (nm.data.toList).length ≤ 1000000) := by show _ ≤ _; rw [← HR.out]; exact HL0.out
    clear HR0 HL0
    go_wp2_with fail
    refine (put1 b _ nm w H0.out.1 (by have h9 := HL.out; (try simp only [List.length_append, List.length_cons, List.length_nil] at h9 ⊢); omega)).mono ?_
    rintro _ w9 ⟨rfl, h2, h3⟩
    have H10 : Hid (WS b (l ++ nm.data.toList) w9 ∧ TrAt b w9 (some ⟨B, 0, none⟩) (.node 2 v nm x y) ∧ WK b w w9) := ⟨h2, H0.out.2.1.keep h3.below, H0.out.2.2.trans h3⟩
    clear h2 h3
    have HQ : Hid (WS b (l ++ R) w9 ∧ WK b w w9) := ⟨by rw [HR.out]; simpa [List.append_assoc] using H10.out.1, H10.out.2.2⟩
    go_wp2
    go_end0
    exact ⟨rfl, HQ.out.1, HQ.out.2⟩
  have d2 := beq_f hc2
  by_cases hc3 : c = 3
  · subst hc3
    have HR : Hid (R = [45, 32] ++ prN 7 x) := HR0.out.trans (prX_3 v nm x y)
    have HL : Hid (l.length + ([45, 32] ++ prN 7 x).length ≤ 1000000) := by show _ ≤ _; rw [← HR.out]; exact HL0.out
    clear HR0 HL0
    go_wp2_with fail
    refine (put1 b _ ⟨#[45, 32]⟩ w H0.out.1 (by have h9 := HL.out; (try simp only [List.length_append, List.length_cons, List.length_nil] at h9 ⊢); omega)).mono ?_
    rintro _ w11 ⟨rfl, h2, h3⟩
    have H12 : Hid (WS b (l ++ [45, 32]) w11 ∧ TrAt b w11 (some ⟨B, 0, none⟩) (.node 3 v nm x y) ∧ WK b w w11) := ⟨h2, H0.out.2.1.keep h3.below, H0.out.2.2.trans h3⟩
    clear h2 h3
    obtain ⟨B0, pl15, pr16, e0, hk0, hx0, hy0⟩ := H12.out.2.1.node
    obtain rfl : B = B0 := by injection e0 with e0; injection e0
    have z0w11 : w11.cell? ⟨B, 0, none⟩ = some (.int .i64 3) := by rw [hk0.cell 0]; rfl
    have z1w11 : w11.cell? ⟨B, 1, none⟩ = some (.int .i64 v.k) := by rw [hk0.cell 1]; rfl
    have z2w11 : w11.cell? ⟨B, 2, none⟩ = some (.int .i64 v.n) := by rw [hk0.cell 2]; rfl
    have z3w11 : w11.cell? ⟨B, 3, none⟩ = some (.string v.t) := by rw [hk0.cell 3]; rfl
    have z4w11 : w11.cell? ⟨B, 4, none⟩ = some (.string nm) := by rw [hk0.cell 4]; rfl
    have z5w11 : w11.cell? ⟨B, 5, none⟩ = some (.pointer pl15) := by rw [hk0.cell 5]; rfl
    have z6w11 : w11.cell? ⟨B, 6, none⟩ = some (.pointer pr16) := by rw [hk0.cell 6]; rfl
    have HX13 : Hid (TrAt b w11 pl15 x) := hx0
    have HY14 : Hid (TrAt b w11 pr16 y) := hy0
    clear hk0 hx0 hy0 e0
    go_wp2_with fail
    refine (HEx.out b pl15 7 _ w11 H12.out.1 HX13.out (by have h9 := HL.out; (try simp only [List.length_append, List.length_cons, List.length_nil] at h9 ⊢); omega)).mono ?_
    rintro _ w17 ⟨rfl, h2, h3⟩
    have H18 : Hid (WS b (l ++ [45, 32] ++ prN 7 x) w17 ∧ TrAt b w17 (some ⟨B, 0, none⟩) (.node 3 v nm x y) ∧ WK b w w17) := ⟨h2, H12.out.2.1.keep h3.below, H12.out.2.2.trans h3⟩
    clear h2 h3
    have HQ : Hid (WS b (l ++ R) w17 ∧ WK b w w17) := ⟨by rw [HR.out]; simpa [List.append_assoc] using H18.out.1, H18.out.2.2⟩
    go_wp2
    go_end0
    exact ⟨rfl, HQ.out.1, HQ.out.2⟩
  have d3 := beq_f hc3
  by_cases hc4 : c = 4
  · subst hc4
    have HR : Hid (R = notT x) := HR0.out.trans (prX_4 v nm x y)
    have HL : Hid (l.length + (notT x).length ≤ 1000000) := by show _ ≤ _; rw [← HR.out]; exact HL0.out
    clear HR0 HL0
    go_wp2_with fail
    refine (HNot.out b B _ w H0.out.1 H0.out.2.1 (by have h9 := HL.out; (try simp only [List.length_append, List.length_cons, List.length_nil] at h9 ⊢); omega)).mono ?_
    rintro _ w19 ⟨rfl, h2, h3⟩
    have H20 : Hid (WS b (l ++ notT x) w19 ∧ TrAt b w19 (some ⟨B, 0, none⟩) (.node 4 v nm x y) ∧ WK b w w19) := ⟨h2, H0.out.2.1.keep h3.below, H0.out.2.2.trans h3⟩
    clear h2 h3
    have HQ : Hid (WS b (l ++ R) w19 ∧ WK b w w19) := ⟨by rw [HR.out]; simpa [List.append_assoc] using H20.out.1, H20.out.2.2⟩
    go_wp2
    go_end0
    exact ⟨rfl, HQ.out.1, HQ.out.2⟩
  have d4 := beq_f hc4
  by_cases hc5 : c = 5
  · subst hc5
    have HR : Hid (R = prN 5 x ++ [32, 105, 115, 32, 110, 117, 108, 108]) := HR0.out.trans (prX_5 v nm x y)
    have HL : Hid (l.length + (prN 5 x ++ [32, 105, 115, 32, 110, 117, 108, 108]).length ≤ 1000000) := by show _ ≤ _; rw [← HR.out]; exact HL0.out
    clear HR0 HL0
    clear z0w z1w z2w z3w z4w z5w z6w
    obtain ⟨B0, pl23, pr24, e0, hk0, hx0, hy0⟩ := H0.out.2.1.node
    obtain rfl : B = B0 := by injection e0 with e0; injection e0
    have z0w : w.cell? ⟨B, 0, none⟩ = some (.int .i64 5) := by rw [hk0.cell 0]; rfl
    have z1w : w.cell? ⟨B, 1, none⟩ = some (.int .i64 v.k) := by rw [hk0.cell 1]; rfl
    have z2w : w.cell? ⟨B, 2, none⟩ = some (.int .i64 v.n) := by rw [hk0.cell 2]; rfl
    have z3w : w.cell? ⟨B, 3, none⟩ = some (.string v.t) := by rw [hk0.cell 3]; rfl
    have z4w : w.cell? ⟨B, 4, none⟩ = some (.string nm) := by rw [hk0.cell 4]; rfl
    have z5w : w.cell? ⟨B, 5, none⟩ = some (.pointer pl23) := by rw [hk0.cell 5]; rfl
    have z6w : w.cell? ⟨B, 6, none⟩ = some (.pointer pr24) := by rw [hk0.cell 6]; rfl
    have HX21 : Hid (TrAt b w pl23 x) := hx0
    have HY22 : Hid (TrAt b w pr24 y) := hy0
    clear hk0 hx0 hy0 e0
    go_wp2_with fail
    refine (HEx.out b pl23 5 _ w H0.out.1 HX21.out (by have h9 := HL.out; (try simp only [List.length_append, List.length_cons, List.length_nil] at h9 ⊢); omega)).mono ?_
    rintro _ w25 ⟨rfl, h2, h3⟩
    have H26 : Hid (WS b (l ++ prN 5 x) w25 ∧ TrAt b w25 (some ⟨B, 0, none⟩) (.node 5 v nm x y) ∧ WK b w w25) := ⟨h2, H0.out.2.1.keep h3.below, H0.out.2.2.trans h3⟩
    clear h2 h3
    go_wp2_with fail
    refine (put1 b _ ⟨#[32, 105, 115, 32, 110, 117, 108, 108]⟩ w25 H26.out.1 (by have h9 := HL.out; (try simp only [List.length_append, List.length_cons, List.length_nil] at h9 ⊢); omega)).mono ?_
    rintro _ w27 ⟨rfl, h2, h3⟩
    have H28 : Hid (WS b (l ++ prN 5 x ++ [32, 105, 115, 32, 110, 117, 108, 108]) w27 ∧ TrAt b w27 (some ⟨B, 0, none⟩) (.node 5 v nm x y) ∧ WK b w w27) := ⟨h2, H26.out.2.1.keep h3.below, H26.out.2.2.trans h3⟩
    clear h2 h3
    have HQ : Hid (WS b (l ++ R) w27 ∧ WK b w w27) := ⟨by rw [HR.out]; simpa [List.append_assoc] using H28.out.1, H28.out.2.2⟩
    go_wp2
    go_end0
    exact ⟨rfl, HQ.out.1, HQ.out.2⟩
  have d5 := beq_f hc5
  by_cases hc17 : c = 17
  · subst hc17
    have HR : Hid (R = prN 5 x ++ ([32, 109, 97, 116, 99, 104, 32] ++ litL v)) := HR0.out.trans (prX_17 v nm x y)
    have HL : Hid (l.length + (prN 5 x ++ ([32, 109, 97, 116, 99, 104, 32] ++ litL v)).length ≤ 1000000) := by show _ ≤ _; rw [← HR.out]; exact HL0.out
    clear HR0 HL0
    clear z0w z1w z2w z3w z4w z5w z6w
    obtain ⟨B0, pl31, pr32, e0, hk0, hx0, hy0⟩ := H0.out.2.1.node
    obtain rfl : B = B0 := by injection e0 with e0; injection e0
    have z0w : w.cell? ⟨B, 0, none⟩ = some (.int .i64 17) := by rw [hk0.cell 0]; rfl
    have z1w : w.cell? ⟨B, 1, none⟩ = some (.int .i64 v.k) := by rw [hk0.cell 1]; rfl
    have z2w : w.cell? ⟨B, 2, none⟩ = some (.int .i64 v.n) := by rw [hk0.cell 2]; rfl
    have z3w : w.cell? ⟨B, 3, none⟩ = some (.string v.t) := by rw [hk0.cell 3]; rfl
    have z4w : w.cell? ⟨B, 4, none⟩ = some (.string nm) := by rw [hk0.cell 4]; rfl
    have z5w : w.cell? ⟨B, 5, none⟩ = some (.pointer pl31) := by rw [hk0.cell 5]; rfl
    have z6w : w.cell? ⟨B, 6, none⟩ = some (.pointer pr32) := by rw [hk0.cell 6]; rfl
    have HX29 : Hid (TrAt b w pl31 x) := hx0
    have HY30 : Hid (TrAt b w pr32 y) := hy0
    clear hk0 hx0 hy0 e0
    go_wp2_with fail
    refine (HEx.out b pl31 5 _ w H0.out.1 HX29.out (by have h9 := HL.out; (try simp only [List.length_append, List.length_cons, List.length_nil] at h9 ⊢); omega)).mono ?_
    rintro _ w33 ⟨rfl, h2, h3⟩
    have H34 : Hid (WS b (l ++ prN 5 x) w33 ∧ TrAt b w33 (some ⟨B, 0, none⟩) (.node 17 v nm x y) ∧ WK b w w33) := ⟨h2, H0.out.2.1.keep h3.below, H0.out.2.2.trans h3⟩
    clear h2 h3
    obtain ⟨B0, pl37, pr38, e0, hk0, hx0, hy0⟩ := H34.out.2.1.node
    obtain rfl : B = B0 := by injection e0 with e0; injection e0
    have z0w33 : w33.cell? ⟨B, 0, none⟩ = some (.int .i64 17) := by rw [hk0.cell 0]; rfl
    have z1w33 : w33.cell? ⟨B, 1, none⟩ = some (.int .i64 v.k) := by rw [hk0.cell 1]; rfl
    have z2w33 : w33.cell? ⟨B, 2, none⟩ = some (.int .i64 v.n) := by rw [hk0.cell 2]; rfl
    have z3w33 : w33.cell? ⟨B, 3, none⟩ = some (.string v.t) := by rw [hk0.cell 3]; rfl
    have z4w33 : w33.cell? ⟨B, 4, none⟩ = some (.string nm) := by rw [hk0.cell 4]; rfl
    have z5w33 : w33.cell? ⟨B, 5, none⟩ = some (.pointer pl37) := by rw [hk0.cell 5]; rfl
    have z6w33 : w33.cell? ⟨B, 6, none⟩ = some (.pointer pr38) := by rw [hk0.cell 6]; rfl
    have HX35 : Hid (TrAt b w33 pl37 x) := hx0
    have HY36 : Hid (TrAt b w33 pr38 y) := hy0
    clear hk0 hx0 hy0 e0
    go_wp2_with fail
    refine (literal_any v HV.out w33 H34.out.1.g).mono ?_
    rintro _ w39 ⟨⟨s, rfl, hs⟩, hb⟩
    have HS : Hid (s.data.toList = litL v) := hs
    have H40 : Hid (WS b (l ++ prN 5 x) w39 ∧ TrAt b w39 (some ⟨B, 0, none⟩) (.node 17 v nm x y) ∧ WK b w w39) := ⟨H34.out.1.below hb, H34.out.2.1.keep (hb.mono (Nat.le_of_lt H34.out.1.wr.lt)), H34.out.2.2.trans (WK.of_below hb (Nat.le_of_lt H34.out.1.wr.lt))⟩
    clear hb hs
    go_wp2_with fail
    refine (put2 b _ ⟨#[32, 109, 97, 116, 99, 104, 32]⟩ s w39 H40.out.1 (by have h9 := HL.out; rw [HS.out]; (try simp only [List.length_append, List.length_cons, List.length_nil] at h9 ⊢); omega)).mono ?_
    rintro _ w41 ⟨rfl, h2, h3⟩
    have H42 : Hid (WS b (l ++ prN 5 x ++ ([32, 109, 97, 116, 99, 104, 32] ++ litL v)) w41 ∧ TrAt b w41 (some ⟨B, 0, none⟩) (.node 17 v nm x y) ∧ WK b w w41) := ⟨by rw [← HS.out]; exact h2, H40.out.2.1.keep h3.below, H40.out.2.2.trans h3⟩
    clear h2 h3
    have HQ : Hid (WS b (l ++ R) w41 ∧ WK b w w41) := ⟨by rw [HR.out]; simpa [List.append_assoc] using H42.out.1, H42.out.2.2⟩
    go_wp2
    go_end0
    exact ⟨rfl, HQ.out.1, HQ.out.2⟩
  have d17 := beq_f hc17
  have HR : Hid (R = pairT c x y) := by show _ = _; exact HR0.out.trans (prX_two v nm x y hc1 hc2 hc3 hc4 hc5 hc17)
  have HL : Hid (l.length + (pairT c x y).length ≤ 1000000) := by show _ ≤ _; rw [← HR.out]; exact HL0.out
  clear HR0 HL0 hc1 hc2 hc3 hc4 hc5 hc17
  go_wp2_with fail
  refine (HPair.out b B _ w H0.out.1 H0.out.2.1 (by have h9 := HL.out; (try simp only [List.length_append, List.length_cons, List.length_nil] at h9 ⊢); omega)).mono ?_
  rintro _ w43 ⟨rfl, h2, h3⟩
  have H44 : Hid (WS b (l ++ pairT c x y) w43 ∧ TrAt b w43 (some ⟨B, 0, none⟩) (.node c v nm x y) ∧ WK b w w43) := ⟨h2, H0.out.2.1.keep h3.below, H0.out.2.2.trans h3⟩
  clear h2 h3
  have HQ : Hid (WS b (l ++ R) w43 ∧ WK b w w43) := ⟨by rw [HR.out]; simpa [List.append_assoc] using H44.out.1, H44.out.2.2⟩
  go_wp2
  go_end0
  exact ⟨rfl, HQ.out.1, HQ.out.2⟩
theorem wexpr_all : ∀ e : Ex, TreeOk e → ESp e ∧ (∀ c v nm l r, e = .node c v nm l r → ESp l)
  | .nil, _ => ⟨wexpr_nil, fun _ _ _ _ _ h => by cases h⟩
  | .node c v nm x y, ⟨hv, hx, hy⟩ => by
    have ix := wexpr_all x hx
    have iy := wexpr_all y hy
    refine ⟨wexpr_of (wbare_of hv ix.1 ?_ (wpair_of ix.1 iy.1)), fun _ _ _ _ _ h => by cases h; exact ix.1⟩
    cases x with
    | nil => exact wnot_nil
    | node d v2 nm2 x2 y2 => exact wnot_node ix.1 (ix.2 _ _ _ _ _ rfl)
end Go.Proofs.YtbdcbaamjkjhaaaGreatDoor
namespace Go.Proofs.YtbdcbaamjkjhaaaGreatDoor
open Go.RowKit

/-- a row of trees that lay there before the writer -/
def RowTr (b : Nat) (w : World) (a : Option Addr) (L : List Ex) : Prop := L = [] ∨ ∃ g off, a = some ⟨g, off, none⟩ ∧ g < b ∧ ∀ j (h : j < L.length), ∃ p, w.cell? ⟨g, off + j, none⟩ = some (.pointer p) ∧ TrAt b w p L[j]
theorem RowTr.keep {b : Nat} {w w' : World} {a : Option Addr} {L : List Ex} (h : RowTr b w a L) (k : Below b w w') : RowTr b w' a L := by
  rcases h with h | ⟨g, off, e, hg, h⟩
  · exact .inl h
  · refine .inr ⟨g, off, e, hg, fun j hj => ?_⟩
    obtain ⟨p, h1, h2⟩ := h j hj
    exact ⟨p, (k.cell (p := ⟨g, off + j, none⟩) hg).trans h1, h2.keep k⟩
/-- what row's closure needs -/
structure RowI (b q : Nat) (a : Option Addr) (c : Nat) (L : List Ex) (w : World) : Prop where
  wr : Blk q #[.pointer (some ⟨b, 0, none⟩)] 110 w
  sl : Blk (q + 1) #[.slice a L.length c] 25 w
  row : RowTr b w a L
  q0 : b < q
theorem RowI.kept {b q : Nat} {a : Option Addr} {c : Nat} {L : List Ex} : ∀ u u', RowI b q a c L u → WK b u u' → RowI b q a c L u' := fun _ _ h k =>
  ⟨k.blk h.wr (by have := h.q0; omega) (by decide), k.blk h.sl (by have := h.q0; omega) (by decide), h.row.keep k.below, h.q0⟩
set_option maxRecDepth 100000 in
set_option maxHeartbeats 4000000 in
theorem wrow1_any {b q : Nat} {a : Option Addr} {c : Nat} {L : List Ex} (hL : ∀ e ∈ L, TreeOk e) (hn : L.length ≤ 1000000) : CSp 99 b L.length ⟨q, 0, none⟩ ⟨q + 1, 0, none⟩ (RowI b q a c L) (fun i => prN 1 (L.getD i .nil)) := by
  intro i l w hi hw hI hl
  have e0 : L.getD i .nil = L[i] := by simp [List.getD, hi]
  rw [show (fun i => prN 1 (L.getD i .nil)) i = prN 1 L[i] from by rw [← e0]] at hl ⊢
  have HE : Hid (ESp L[i]) := (wexpr_all L[i] (hL _ (List.getElem_mem hi))).1
  rcases hI.row with h | ⟨g, off, rfl, hg, hr⟩
  · subst h; exact absurd hi (by simp)
  obtain ⟨p, hp, ht⟩ := hr i hi
  have z0 : w.drew.cell? ⟨q, 0, none⟩ = some (.pointer (some ⟨b, 0, none⟩)) := by rw [show w.drew.cell? ⟨q, 0, none⟩ = w.cell? ⟨q, 0, none⟩ from rfl, hI.wr.cell 0]; rfl
  have z1 : w.drew.cell? ⟨q + 1, 0, none⟩ = some (.slice (some ⟨g, off, none⟩) L.length c) := by rw [show w.drew.cell? ⟨q + 1, 0, none⟩ = w.cell? ⟨q + 1, 0, none⟩ from rfl, hI.sl.cell 0]; rfl
  have z2 : w.drew.cell? ⟨g, off + i, none⟩ = some (.pointer p) := hp
  have hi' : (i : Int) < (L.length : Int) := by omega
  have H0 : Hid (WS b l w.drew ∧ TrAt b w.drew p L[i] ∧ l.length + (prN 1 L[i]).length ≤ 1000000) := ⟨hw.below ((Below.refl _ _).drew), ht.keep ((Below.refl _ _).drew), hl⟩
  generalize L[i] = e at *
  clear hw hI hl hr hp ht hL e0
  go_enter Tryz.func99, Tryz.ntmps99
  go_region_law (go_wp2_with (go_at_call 100; refine Calls.mono (HE.out b p 1 l _ H0.out.1 H0.out.2.1 H0.out.2.2) ?_; rintro _ w1 ⟨rfl, h2, h3⟩; have H1 : Hid (WS b (l ++ prN 1 e) w1 ∧ WK b w w1) := ⟨h2, (WK.refl b w).drew.trans h3⟩; clear h2 h3))
  all_goals
    go_end0
    exact ⟨rfl, H1.out.1, H1.out.2⟩
end Go.Proofs.YtbdcbaamjkjhaaaGreatDoor
namespace Go.Proofs.YtbdcbaamjkjhaaaGreatDoor
open Go.RowKit

def rowT (L : List Ex) : List UInt8 := [40] ++ lstT (fun i => prN 1 (L.getD i .nil)) L.length ++ [41]
set_option maxRecDepth 100000 in
set_option maxHeartbeats 4000000 in
theorem wrow_any (L : List Ex) (hL : ∀ e ∈ L, TreeOk e) (hn : L.length ≤ 1000000) (b : Nat) (a : Option Addr) (c : Nat) (l : List UInt8) (w : World) (hw : WS b l w) (hr : RowTr b w a L) (hl : l.length + (rowT L).length ≤ 1000000) :
    Calls Tryz.prog 58 #[.pointer (some ⟨b, 0, none⟩), .slice a L.length c] w fun r w' => Puts b l (rowT L) w r w' := by
  have hmf : ∀ (fn : Fn) (first cap : Array Value) (w : World), (Instr.makeFunc fn first cap).run Tryz.prog w = .ok (.func fn first cap) w := fun _ _ _ _ => rfl
  have HC := wrow1_any (b := b) (q := w.heap.size) (a := a) (c := c) hL hn
  obtain ⟨M, hM⟩ : ∃ M, lstT (fun i => prN 1 (L.getD i .nil)) L.length = M := ⟨_, rfl⟩
  have HM : Hid (lstT (fun i => prN 1 (L.getD i .nil)) L.length = M) := hM
  have HCC : Hid (CSp 99 b L.length ⟨w.heap.size, 0, none⟩ ⟨w.heap.size + 1, 0, none⟩ (RowI b w.heap.size a c L) (fun i => prN 1 (L.getD i .nil))) := HC
  obtain ⟨R, hR⟩ : ∃ R, rowT L = R := ⟨_, rfl⟩
  have HR : Hid (R = [40] ++ M ++ [41]) := by show _ = _; rw [← hR, ← hM]; rfl
  rw [hR] at hl ⊢
  have HL : Hid (l.length + ([40] ++ M ++ [41]).length ≤ 1000000) := by show _ ≤ _; rw [← HR.out]; exact hl
  obtain ⟨W, hW⟩ : ∃ W, (w.alloc (.cells #[.pointer (some ⟨b, 0, none⟩)] 110)).alloc (.cells #[.slice a L.length c] 25) = W := ⟨_, rfl⟩
  have hlt := hw.wr.lt
  have G0 : Hid (WS b l W ∧ WK b w W ∧ RowI b w.heap.size a c L W) := by
    have hk2 : Blk (w.heap.size + 1) #[.slice a L.length c] 25 W := by
      have := Blk.new (w.alloc (.cells #[.pointer (some ⟨b, 0, none⟩)] 110)) #[.slice a L.length c] 25
      rw [hW, World.size_alloc] at this
      exact this
    have hk : WK b w W := by rw [← hW]; exact ((WK.refl _ _).alloc (Nat.le_of_lt hlt) _).alloc (by simp; omega) _
    refine ⟨by rw [← hW]; exact (hw.alloc _).alloc _, hk, ?_, hk2, hr.keep hk.below, hlt⟩
    rw [← hW]; exact (Blk.new _ _ _).below ((Below.refl _ _).alloc (Nat.le_refl _) _)
  clear hM HC hR hl hlt hw hr hL
  have z0 : W.cell? ⟨w.heap.size, 0, none⟩ = some (.pointer (some ⟨b, 0, none⟩)) := by rw [G0.out.2.2.wr.cell 0]; rfl
  go_enter Tryz.func58, Tryz.ntmps58
  go_wp2_with fail
  refine (put1 b _ ⟨#[40]⟩ W G0.out.1 (by have h9 := HL.out; simp at h9 ⊢; omega)).mono ?_
  rintro _ w1 ⟨rfl, h2, h3⟩
  have G1 : Hid (WS b (l ++ [40]) w1 ∧ WK b w w1 ∧ RowI b w.heap.size a c L w1) := ⟨h2, G0.out.2.1.trans h3, RowI.kept _ _ G0.out.2.2 h3⟩
  clear h2 h3
  have y0 : w1.cell? ⟨w.heap.size, 0, none⟩ = some (.pointer (some ⟨b, 0, none⟩)) := by rw [G1.out.2.2.wr.cell 0]; rfl
  have y1 : w1.cell? ⟨w.heap.size + 1, 0, none⟩ = some (.slice a L.length c) := by rw [G1.out.2.2.sl.cell 0]; rfl
  go_wp2_with fail
  refine (wli_wr RowI.kept HCC.out hn _ w1 G1.out.1 G1.out.2.2 (by rw [HM.out]; have h9 := HL.out; simp at h9 ⊢; omega)).mono ?_
  rintro _ w2 ⟨rfl, h2, h3⟩
  rw [HM.out] at h2
  have G2 : Hid (WS b (l ++ [40] ++ M) w2 ∧ WK b w w2 ∧ RowI b w.heap.size a c L w2) := ⟨h2, G1.out.2.1.trans h3, RowI.kept _ _ G1.out.2.2 h3⟩
  clear h2 h3
  have x0 : w2.cell? ⟨w.heap.size, 0, none⟩ = some (.pointer (some ⟨b, 0, none⟩)) := by rw [G2.out.2.2.wr.cell 0]; rfl
  go_wp2_with fail
  refine (put1 b _ ⟨#[41]⟩ w2 G2.out.1 (by have h9 := HL.out; simp at h9 ⊢; omega)).mono ?_
  rintro _ w3 ⟨rfl, h2, h3⟩
  have G3 : Hid (WS b (l ++ R) w3 ∧ WK b w w3) := ⟨by rw [HR.out]; simpa [List.append_assoc] using h2, G2.out.2.1.trans h3⟩
  clear h2 h3
  go_wp2
  go_end0
  exact ⟨rfl, G3.out.1, G3.out.2⟩
end Go.Proofs.YtbdcbaamjkjhaaaGreatDoor
namespace Go.Proofs.YtbdcbaamjkjhaaaGreatDoor
open Go.RowKit

def behT (s : List UInt8) (e : Ex) : List UInt8 := match e with
  | .nil => []
  | .node _ _ _ _ _ => s ++ prN 1 e
set_option maxRecDepth 100000 in
set_option maxHeartbeats 1000000 in
theorem wbehind_any (e : Ex) (he : TreeOk e) (b : Nat) (p : Option Addr) (s : ByteArray) (l : List UInt8) (w : World) (hw : WS b l w) (ht : TrAt b w p e) (hl : l.length + (behT s.data.toList e).length ≤ 1000000) :
    Calls Tryz.prog 59 #[.pointer (some ⟨b, 0, none⟩), .string s, .pointer p] w fun r w' => Puts b l (behT s.data.toList e) w r w' := by
  have HE : Hid (ESp e) := (wexpr_all e he).1
  have H0 : Hid (WS b l w ∧ TrAt b w p e) := ⟨hw, ht⟩
  cases e with
  | nil =>
    obtain rfl := ht.nil
    clear hw ht hl he
    go_enter Tryz.func59, Tryz.ntmps59
    go_wp2
    go_end0
    exact ⟨rfl, by rw [show behT s.data.toList .nil = [] from rfl, List.append_nil]; exact H0.out.1, WK.refl _ _⟩
  | node c v nm x y =>
    obtain ⟨B, pl, pr, rfl, _, _, _⟩ := ht.node
    have HR : Hid (behT s.data.toList (.node c v nm x y) = s.data.toList ++ prN 1 (.node c v nm x y)) := rfl
    have HL : Hid (l.length + (s.data.toList ++ prN 1 (.node c v nm x y)).length ≤ 1000000) := hl
    rw [HR.out]
    clear hw ht hl he
    obtain ⟨R, hR⟩ : ∃ R, prN 1 (.node c v nm x y) = R := ⟨_, rfl⟩
    have HQ : Hid (prN 1 (.node c v nm x y) = R) := hR
    rw [hR] at HL ⊢
    clear hR HR
    go_enter Tryz.func59, Tryz.ntmps59
    go_wp2_with fail
    refine (put1 b l s w H0.out.1 (by have h9 := HL.out; (try simp only [List.length_append] at h9 ⊢); omega)).mono ?_
    rintro _ w1 ⟨rfl, h2, h3⟩
    have H1 : Hid (WS b (l ++ s.data.toList) w1 ∧ TrAt b w1 (some ⟨B, 0, none⟩) (.node c v nm x y) ∧ WK b w w1) := ⟨h2, H0.out.2.keep h3.below, h3⟩
    clear h2 h3
    go_wp2_with fail
    refine (HE.out b _ 1 _ w1 H1.out.1 H1.out.2.1 (by rw [HQ.out]; have h9 := HL.out; (try simp only [List.length_append] at h9 ⊢); omega)).mono ?_
    rintro _ w2 ⟨rfl, h2, h3⟩
    rw [HQ.out] at h2
    have H2 : Hid (WS b (l ++ (s.data.toList ++ R)) w2 ∧ WK b w w2) := ⟨by rw [← List.append_assoc]; exact h2, H1.out.2.2.trans h3⟩
    clear h2 h3
    go_wp2
    go_end0
    exact ⟨rfl, H2.out.1, H2.out.2⟩
/-- a column, as it is written -/
def colT (n : ByteArray) (k : Int) (m u : Bool) : List UInt8 := n.data.toList ++ (if k = 2 then [32, 116, 101, 120, 116] else [32, 105, 110, 116]) ++ (if m then [32, 110, 111, 116, 32, 110, 117, 108, 108] else []) ++ (if u then [32, 119, 111, 114, 100, 115] else [])
end Go.Proofs.YtbdcbaamjkjhaaaGreatDoor
