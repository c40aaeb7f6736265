/- Part 21 of 29. -/
import Derived.Test.YtbdcbaamjkjhaaaGreatDoorK20
namespace Go.Proofs.YtbdcbaamjkjhaaaGreatDoor
open Go.RowKit

def twoR (c : Int) (a b : Vl) : Except Int Vl := if c = 6 ∨ c = 7 ∨ c = 8 then countR c a b else if c = 15 ∨ c = 16 then bothR c a b else .ok (cmpR c a b)
theorem tupR_ok {r : Except Int Vl} : ∃ v E, tupR r = .tuple #[vv v, E] ∧ (E = .nilIface ∨ ∃ n, E = .iface 53 (.int .i64 n)) := by
  cases r with
  | ok v => exact ⟨v, _, rfl, Or.inl rfl⟩
  | error n => exact ⟨.none, _, rfl, Or.inr ⟨n, rfl⟩⟩
set_option maxRecDepth 100000 in
set_option maxHeartbeats 4000000 in
theorem two_any (c : Int) (a b : Vl) (w : World) (hv : w.rangeAt 0 0 askCells) (hlo : 13 ≤ w.heap.size) : Calls Tryz.prog 70 #[.int .i64 c, vv a, vv b] w fun e w' => e = .returned (tupR (twoR c a b)) ∧ Below w.heap.size w w' := by
  obtain ⟨W, hW⟩ : ∃ W, ((w.alloc (.cells #[.int .i64 a.k, .int .i64 a.n, .string a.t] 39)).alloc (.cells #[.int .i64 b.k, .int .i64 b.n, .string b.t] 39)).alloc (.cells #[.int .i64 0, .int .i64 0, .string ⟨#[]⟩] 39) = W := ⟨_, rfl⟩
  have hbW : Below w.heap.size w W := by rw [← hW]; exact (((Below.refl _ _).alloc (Nat.le_refl _) _).alloc (by simp only [World.size_alloc]; omega) _).alloc (by simp only [World.size_alloc]; omega) _
  have hk0W : Blk (w.heap.size) a.cells 39 W := by
      have hq := Blk.new w a.cells 39
      rw [← hW]
      exact hq.below (((Below.refl _ _).alloc (Nat.le_refl _) _).alloc (by simp only [World.size_alloc]; omega) _)
  have hk1W : Blk (w.heap.size + 1) b.cells 39 W := by
      have hq := Blk.new (w.alloc (.cells a.cells 39)) b.cells 39
      simp only [World.size_alloc] at hq
      rw [← hW]
      exact hq.below ((Below.refl _ _).alloc (Nat.le_refl _) _)
  have hk2W : Blk (w.heap.size + 2) Vl.none.cells 39 W := by
      have hq := Blk.new ((w.alloc (.cells a.cells 39)).alloc (.cells b.cells 39)) Vl.none.cells 39
      simp only [World.size_alloc, Nat.add_assoc, Nat.reduceAdd] at hq
      rw [← hW]
      exact hq
  have G0 : Hid (Blk (w.heap.size) a.cells 39 W ∧ Blk (w.heap.size + 1) b.cells 39 W ∧ Blk (w.heap.size + 2) Vl.none.cells 39 W ∧ Below w.heap.size w W) := ⟨hk0W, hk1W, hk2W, hbW⟩
  clear hbW
  obtain ⟨x0, x1, x2, xf⟩ := hk0W.vc
  obtain ⟨y0, y1, y2, yf⟩ := hk1W.vc
  clear hk0W hk1W hk2W
  have HV : Hid (W.rangeAt 0 0 askCells ∧ 13 ≤ W.heap.size) := ⟨range_keep hv (fun q => World.cell?_of_block (w := w) (a := ⟨0, q, none⟩) (G0.out.2.2.2.block 0 (by omega))), by have := G0.out.2.2.2.size; omega⟩
  clear hv hlo
  show Calls _ _ #[_, .agg #[.int .i64 a.k, .int .i64 a.n, .string a.t], .agg #[.int .i64 b.k, .int .i64 b.n, .string b.t]] _ _
  by_cases h6 : c = 6
  · subst h6
    rw [show twoR 6 a b = countR 6 a b from if_pos (by decide)]
    obtain ⟨R, hR⟩ : ∃ R, countR 6 a b = R := ⟨_, rfl⟩
    have HR : Hid (countR 6 a b = R) := hR
    rw [hR]
    clear hR 
    go_enter Tryz.func70, Tryz.ntmps70
    go_wp2_with fail
    refine ((by have h8 := count_any 6 a b W; rw [HR.out] at h8; exact h8 : Calls Tryz.prog 67 #[.int .i64 6, vv a, vv b] W fun e w' => e = .returned (tupR R) ∧ Below W.heap.size W w')).mono ?_
    rintro _ w1 ⟨rfl, hb⟩
    have H1 : Hid (Blk (w.heap.size + 2) Vl.none.cells 39 w1 ∧ Below w.heap.size w w1) := ⟨G0.out.2.2.1.below hb, G0.out.2.2.2.trans (hb.mono G0.out.2.2.2.size)⟩
    obtain ⟨u0, u1, u2, uf⟩ := H1.out.1.vc
    clear hb
    obtain ⟨rv, E, he, hE⟩ := tupR_ok (r := R)
    have HEq : Hid (tupR R = .tuple #[vv rv, E]) := he
    rw [he]
    clear he
    unfold vv
    rcases hE with rfl | ⟨n, rfl⟩
    · go_wp2
      refine bodyPost_ret (v := .tuple #[vv rv, .nilIface]) (results_ct Tryz.results70 _ _ ⟨w.heap.size + 2, 0, none⟩ rfl (load39 (put39_blk rv H1.out.1))) rfl ?_
      exact ⟨by rw [HEq.out], put39_below rv H1.out.2 (by omega)⟩
    · go_wp2
      refine bodyPost_ret (v := .tuple #[vv rv, .iface 53 (.int .i64 n)]) (results_ct Tryz.results70 _ _ ⟨w.heap.size + 2, 0, none⟩ rfl (load39 (put39_blk rv H1.out.1))) rfl ?_
      exact ⟨by rw [HEq.out], put39_below rv H1.out.2 (by omega)⟩
  have b6 : (c == 6) = false := beq_f h6
  by_cases h7 : c = 7
  · subst h7
    rw [show twoR 7 a b = countR 7 a b from if_pos (by decide)]
    obtain ⟨R, hR⟩ : ∃ R, countR 7 a b = R := ⟨_, rfl⟩
    have HR : Hid (countR 7 a b = R) := hR
    rw [hR]
    clear hR 
    go_enter Tryz.func70, Tryz.ntmps70
    go_wp2_with fail
    refine ((by have h8 := count_any 7 a b W; rw [HR.out] at h8; exact h8 : Calls Tryz.prog 67 #[.int .i64 7, vv a, vv b] W fun e w' => e = .returned (tupR R) ∧ Below W.heap.size W w')).mono ?_
    rintro _ w1 ⟨rfl, hb⟩
    have H1 : Hid (Blk (w.heap.size + 2) Vl.none.cells 39 w1 ∧ Below w.heap.size w w1) := ⟨G0.out.2.2.1.below hb, G0.out.2.2.2.trans (hb.mono G0.out.2.2.2.size)⟩
    obtain ⟨u0, u1, u2, uf⟩ := H1.out.1.vc
    clear hb
    obtain ⟨rv, E, he, hE⟩ := tupR_ok (r := R)
    have HEq : Hid (tupR R = .tuple #[vv rv, E]) := he
    rw [he]
    clear he
    unfold vv
    rcases hE with rfl | ⟨n, rfl⟩
    · go_wp2
      refine bodyPost_ret (v := .tuple #[vv rv, .nilIface]) (results_ct Tryz.results70 _ _ ⟨w.heap.size + 2, 0, none⟩ rfl (load39 (put39_blk rv H1.out.1))) rfl ?_
      exact ⟨by rw [HEq.out], put39_below rv H1.out.2 (by omega)⟩
    · go_wp2
      refine bodyPost_ret (v := .tuple #[vv rv, .iface 53 (.int .i64 n)]) (results_ct Tryz.results70 _ _ ⟨w.heap.size + 2, 0, none⟩ rfl (load39 (put39_blk rv H1.out.1))) rfl ?_
      exact ⟨by rw [HEq.out], put39_below rv H1.out.2 (by omega)⟩
  have b7 : (c == 7) = false := beq_f h7
  by_cases h8 : c = 8
  · subst h8
    rw [show twoR 8 a b = countR 8 a b from if_pos (by decide)]
    obtain ⟨R, hR⟩ : ∃ R, countR 8 a b = R := ⟨_, rfl⟩
    have HR : Hid (countR 8 a b = R) := hR
    rw [hR]
    clear hR 
    go_enter Tryz.func70, Tryz.ntmps70
    go_wp2_with fail
    refine ((by have h8 := count_any 8 a b W; rw [HR.out] at h8; exact h8 : Calls Tryz.prog 67 #[.int .i64 8, vv a, vv b] W fun e w' => e = .returned (tupR R) ∧ Below W.heap.size W w')).mono ?_
    rintro _ w1 ⟨rfl, hb⟩
    have H1 : Hid (Blk (w.heap.size + 2) Vl.none.cells 39 w1 ∧ Below w.heap.size w w1) := ⟨G0.out.2.2.1.below hb, G0.out.2.2.2.trans (hb.mono G0.out.2.2.2.size)⟩
    obtain ⟨u0, u1, u2, uf⟩ := H1.out.1.vc
    clear hb
    obtain ⟨rv, E, he, hE⟩ := tupR_ok (r := R)
    have HEq : Hid (tupR R = .tuple #[vv rv, E]) := he
    rw [he]
    clear he
    unfold vv
    rcases hE with rfl | ⟨n, rfl⟩
    · go_wp2
      refine bodyPost_ret (v := .tuple #[vv rv, .nilIface]) (results_ct Tryz.results70 _ _ ⟨w.heap.size + 2, 0, none⟩ rfl (load39 (put39_blk rv H1.out.1))) rfl ?_
      exact ⟨by rw [HEq.out], put39_below rv H1.out.2 (by omega)⟩
    · go_wp2
      refine bodyPost_ret (v := .tuple #[vv rv, .iface 53 (.int .i64 n)]) (results_ct Tryz.results70 _ _ ⟨w.heap.size + 2, 0, none⟩ rfl (load39 (put39_blk rv H1.out.1))) rfl ?_
      exact ⟨by rw [HEq.out], put39_below rv H1.out.2 (by omega)⟩
  have b8 : (c == 8) = false := beq_f h8
  by_cases h15 : c = 15
  · subst h15
    rw [show twoR 15 a b = bothR 15 a b by rw [twoR, if_neg (by decide), if_pos (by decide)]]
    clear h6 h7 h8 
    obtain ⟨R, hR⟩ : ∃ R, bothR 15 a b = R := ⟨_, rfl⟩
    have HR : Hid (bothR 15 a b = R) := hR
    rw [hR]
    clear hR 
    go_enter Tryz.func70, Tryz.ntmps70
    go_wp2_with fail
    refine ((by have h8 := both_any 15 a b W; rw [HR.out] at h8; exact h8 : Calls Tryz.prog 31 #[.int .i64 15, vv a, vv b] W fun e w' => e = .returned (tupR R) ∧ Below W.heap.size W w')).mono ?_
    rintro _ w1 ⟨rfl, hb⟩
    have H1 : Hid (Blk (w.heap.size + 2) Vl.none.cells 39 w1 ∧ Below w.heap.size w w1) := ⟨G0.out.2.2.1.below hb, G0.out.2.2.2.trans (hb.mono G0.out.2.2.2.size)⟩
    obtain ⟨u0, u1, u2, uf⟩ := H1.out.1.vc
    clear hb
    obtain ⟨rv, E, he, hE⟩ := tupR_ok (r := R)
    have HEq : Hid (tupR R = .tuple #[vv rv, E]) := he
    rw [he]
    clear he
    unfold vv
    rcases hE with rfl | ⟨n, rfl⟩
    · go_wp2
      refine bodyPost_ret (v := .tuple #[vv rv, .nilIface]) (results_ct Tryz.results70 _ _ ⟨w.heap.size + 2, 0, none⟩ rfl (load39 (put39_blk rv H1.out.1))) rfl ?_
      exact ⟨by rw [HEq.out], put39_below rv H1.out.2 (by omega)⟩
    · go_wp2
      refine bodyPost_ret (v := .tuple #[vv rv, .iface 53 (.int .i64 n)]) (results_ct Tryz.results70 _ _ ⟨w.heap.size + 2, 0, none⟩ rfl (load39 (put39_blk rv H1.out.1))) rfl ?_
      exact ⟨by rw [HEq.out], put39_below rv H1.out.2 (by omega)⟩
  have b15 : (c == 15) = false := beq_f h15
  by_cases h16 : c = 16
  · subst h16
    rw [show twoR 16 a b = bothR 16 a b by rw [twoR, if_neg (by decide), if_pos (by decide)]]
    clear h6 h7 h8 h15
    obtain ⟨R, hR⟩ : ∃ R, bothR 16 a b = R := ⟨_, rfl⟩
    have HR : Hid (bothR 16 a b = R) := hR
    rw [hR]
    clear hR 
    go_enter Tryz.func70, Tryz.ntmps70
    go_wp2_with fail
    refine ((by have h8 := both_any 16 a b W; rw [HR.out] at h8; exact h8 : Calls Tryz.prog 31 #[.int .i64 16, vv a, vv b] W fun e w' => e = .returned (tupR R) ∧ Below W.heap.size W w')).mono ?_
    rintro _ w1 ⟨rfl, hb⟩
    have H1 : Hid (Blk (w.heap.size + 2) Vl.none.cells 39 w1 ∧ Below w.heap.size w w1) := ⟨G0.out.2.2.1.below hb, G0.out.2.2.2.trans (hb.mono G0.out.2.2.2.size)⟩
    obtain ⟨u0, u1, u2, uf⟩ := H1.out.1.vc
    clear hb
    obtain ⟨rv, E, he, hE⟩ := tupR_ok (r := R)
    have HEq : Hid (tupR R = .tuple #[vv rv, E]) := he
    rw [he]
    clear he
    unfold vv
    rcases hE with rfl | ⟨n, rfl⟩
    · go_wp2
      refine bodyPost_ret (v := .tuple #[vv rv, .nilIface]) (results_ct Tryz.results70 _ _ ⟨w.heap.size + 2, 0, none⟩ rfl (load39 (put39_blk rv H1.out.1))) rfl ?_
      exact ⟨by rw [HEq.out], put39_below rv H1.out.2 (by omega)⟩
    · go_wp2
      refine bodyPost_ret (v := .tuple #[vv rv, .iface 53 (.int .i64 n)]) (results_ct Tryz.results70 _ _ ⟨w.heap.size + 2, 0, none⟩ rfl (load39 (put39_blk rv H1.out.1))) rfl ?_
      exact ⟨by rw [HEq.out], put39_below rv H1.out.2 (by omega)⟩
  have b16 : (c == 16) = false := beq_f h16
  rw [show twoR c a b = .ok (cmpR c a b) by rw [twoR, if_neg (by omega), if_neg (by omega)]]
  clear h6 h7 h8 h15 h16
  go_enter Tryz.func70, Tryz.ntmps70
  go_wp2_with fail
  refine (compare_any c a b W HV.out.1 HV.out.2).mono ?_
  rintro _ w1 ⟨rfl, hb⟩
  have H1 : Hid (Blk (w.heap.size + 2) Vl.none.cells 39 w1 ∧ Below w.heap.size w w1) := ⟨G0.out.2.2.1.below hb, G0.out.2.2.2.trans (hb.mono G0.out.2.2.2.size)⟩
  obtain ⟨u0, u1, u2, uf⟩ := H1.out.1.vc
  clear hb
  obtain ⟨rv, hrv⟩ : ∃ r, cmpR c a b = r := ⟨_, rfl⟩
  have HRV : Hid (cmpR c a b = rv) := hrv
  rw [hrv]
  clear hrv
  unfold vv
  go_wp2
  refine bodyPost_ret (v := .tuple #[vv rv, .nilIface]) (results_ct Tryz.results70 _ _ ⟨w.heap.size + 2, 0, none⟩ rfl (load39 (put39_blk rv H1.out.1))) rfl ?_
  exact ⟨by rw [HRV.out]; rfl, put39_below rv H1.out.2 (by omega)⟩
set_option maxRecDepth 100000 in
set_option maxHeartbeats 4000000 in
theorem own_any (v : Vl) (w : World) (hs : v.t.size ≤ 100000) : Calls Tryz.prog 37 #[vv v] w fun e w' => e = .returned (vv v) ∧ Below w.heap.size w w' := by
  obtain ⟨W, hW⟩ : ∃ W, (w.alloc (.cells #[.int .i64 v.k, .int .i64 v.n, .string v.t] 39)).alloc (.cells #[.int .i64 0, .int .i64 0, .string ⟨#[]⟩] 39) = W := ⟨_, rfl⟩
  have hbW : Below w.heap.size w W := by rw [← hW]; exact ((Below.refl _ _).alloc (Nat.le_refl _) _).alloc (by simp only [World.size_alloc]; omega) _
  have hk0W : Blk (w.heap.size) v.cells 39 W := by
      have hq := Blk.new w v.cells 39
      rw [← hW]
      exact hq.below ((Below.refl _ _).alloc (Nat.le_refl _) _)
  have hk1W : Blk (w.heap.size + 1) Vl.none.cells 39 W := by
      have hq := Blk.new (w.alloc (.cells v.cells 39)) Vl.none.cells 39
      simp only [World.size_alloc] at hq
      rw [← hW]
      exact hq
  have G0 : Hid (Blk (w.heap.size) v.cells 39 W ∧ Blk (w.heap.size + 1) Vl.none.cells 39 W ∧ Below w.heap.size w W) := ⟨hk0W, hk1W, hbW⟩
  clear hbW
  obtain ⟨x0, x1, x2, xf⟩ := hk0W.vc
  have HS : Hid (v.t.size ≤ 100000) := hs
  clear hk0W hk1W hs
  show Calls _ _ #[.agg #[.int .i64 v.k, .int .i64 v.n, .string v.t]] _ _
  go_enter Tryz.func37, Tryz.ntmps37
  go_wp2_with fail
  refine (clone_ok v.t W HS.out).mono ?_
  rintro _ w1 ⟨rfl, hb⟩
  have H1 : Hid (Blk w.heap.size v.cells 39 w1 ∧ Blk (w.heap.size + 1) Vl.none.cells 39 w1 ∧ Below w.heap.size w w1) := ⟨G0.out.1.below hb, G0.out.2.1.below hb, G0.out.2.2.trans (hb.mono G0.out.2.2.size)⟩
  obtain ⟨V, hV⟩ : ∃ V, w1.setCell ⟨w.heap.size, 2, none⟩ (.string v.t) = V := ⟨_, rfl⟩
  have H2 : Hid (Blk w.heap.size v.cells 39 V ∧ Blk (w.heap.size + 1) Vl.none.cells 39 V ∧ Below w.heap.size w V) := by
    rw [← hV]
    refine ⟨?_, H1.out.2.1.other (by omega) 2 _, H1.out.2.2.setCell (Nat.le_refl _) _⟩
    have := H1.out.1.set 2 (.string v.t)
    simpa [Vl.cells] using this
  obtain ⟨u0, u1, u2, uf⟩ := H1.out.1.vc
  obtain ⟨p0, p1, p2, pf⟩ := H2.out.1.vc
  obtain ⟨q0, q1, q2, qf⟩ := H2.out.2.1.vc
  clear hb
  go_wp2
  refine bodyPost_ret (v := vv v) (results_c Tryz.results37 _ _ ⟨w.heap.size + 1, 0, none⟩ rfl (load39 (put39_blk v H2.out.2.1))) rfl ?_
  exact ⟨rfl, put39_below v H2.out.2.2 (by omega)⟩
def formB : Ex → Bool
  | .nil => false
  | .node c _ _ l _ => decide (1 ≤ c) && decide (c ≤ 17) && (decide (c ≠ 17) || decide (l.code = 2))
set_option maxRecDepth 100000 in
set_option maxHeartbeats 4000000 in
theorem formed_any (e : Ex) (p : Option Addr) (w : World) (h : ExAt w p e) : Calls Tryz.prog 66 #[.pointer p] w fun r w' => r = .returned (.bool (formB e)) ∧ w' = w := by
  cases e with
  | nil =>
    obtain rfl : p = none := h
    go_enter Tryz.func66, Tryz.ntmps66
    go_wp2
    go_ret
    exact ⟨rfl, rfl⟩
  | node c v nm l r =>
    obtain ⟨B, pl, pr, rfl, _, ⟨c0, c1, c2, c3, c4, c5, c6⟩, ql, qr⟩ := h
    by_cases h1 : c < 1
    · rw [show formB (.node c v nm l r) = false by rw [formB, decide_eq_false (show ¬ 1 ≤ c by omega)]; rfl]
      have d1 : decide (c < 1) = true := decide_eq_true h1
      clear h1 ql qr
      go_enter Tryz.func66, Tryz.ntmps66
      go_wp2
      go_ret
      exact ⟨rfl, rfl⟩
    have d1 : decide (c < 1) = false := decide_eq_false h1
    by_cases h2 : 17 < c
    · rw [show formB (.node c v nm l r) = false by rw [formB, decide_eq_false (show ¬ c ≤ 17 by omega), Bool.and_false]; rfl]
      have d2 : decide (17 < c) = true := decide_eq_true h2
      clear h1 h2 ql qr
      go_enter Tryz.func66, Tryz.ntmps66
      go_wp2
      go_ret
      exact ⟨rfl, rfl⟩
    have d2 : decide (17 < c) = false := decide_eq_false h2
    by_cases h3 : c = 17
    rotate_left
    · rw [show formB (.node c v nm l r) = true by rw [formB, decide_eq_true (show 1 ≤ c by omega), decide_eq_true (show c ≤ 17 by omega), decide_eq_true h3]; rfl]
      have d3 : (c != 17) = true := bne_t h3
      clear h1 h2 h3 ql qr
      go_enter Tryz.func66, Tryz.ntmps66
      go_wp2
      go_ret
      exact ⟨rfl, rfl⟩
    subst h3
    clear h1 h2 d1 d2 qr
    cases l with
    | nil =>
      obtain rfl : pl = none := ql
      rw [show formB (.node 17 v nm .nil r) = false from rfl]
      go_enter Tryz.func66, Tryz.ntmps66
      go_wp2
      go_ret
      exact ⟨rfl, rfl⟩
    | node d v2 nm2 l2 r2 =>
      obtain ⟨B2, pl2, pr2, rfl, _, ⟨e0, _⟩, _, _⟩ := ql
      have ef : formB (.node 17 v nm (.node d v2 nm2 l2 r2) r) = (d == 2) := by
        show (decide (1 ≤ (17 : Int)) && decide ((17 : Int) ≤ 17) && (decide ((17 : Int) ≠ 17) || decide (d = 2))) = _
        simp
        by_cases hd : d = 2 <;> simp [hd]
      rw [ef]
      clear ef
      obtain ⟨q, hq⟩ : ∃ q, (d == 2) = q := ⟨_, rfl⟩
      rw [hq]
      go_enter Tryz.func66, Tryz.ntmps66
      go_wp2
      go_ret
      exact ⟨rfl, rfl⟩
end Go.Proofs.YtbdcbaamjkjhaaaGreatDoor
namespace Go.Proofs.YtbdcbaamjkjhaaaGreatDoor
open Go.RowKit

def colR (a b c : Vl) (nm : ByteArray) : Except Int Vl := if (nm.toList == [97]) then .ok a else if (nm.toList == [98]) then .ok b else if (nm.toList == [99]) then .ok c else .error 5
structure EnvW (ba bb bc bf : Nat) (a b c : Vl) (w : World) : Prop where
  ka : Blk ba a.cells 39 w
  kb : Blk bb b.cells 39 w
  kc : Blk bc c.cells 39 w
  kf : w.cell? ⟨bf, 0, none⟩ = some (.func (.func 33) #[] #[.pointer (some ⟨ba, 0, none⟩), .pointer (some ⟨bb, 0, none⟩), .pointer (some ⟨bc, 0, none⟩)])
  lf : bf < w.heap.size
  ask : w.rangeAt 0 0 askCells
  lo : 13 ≤ w.heap.size
theorem EnvW.below {ba bb bc bf : Nat} {a b c : Vl} {w w' : World} (h : EnvW ba bb bc bf a b c w) (hb : Below w.heap.size w w') : EnvW ba bb bc bf a b c w' :=
  ⟨h.ka.below hb, h.kb.below hb, h.kc.below hb, (hb.cell (p := ⟨bf, 0, none⟩) h.lf).trans h.kf, Nat.lt_of_lt_of_le h.lf hb.size, range_keep h.ask (fun q => World.cell?_of_block (w := w) (a := ⟨0, q, none⟩) (hb.block 0 (by have := h.lo; omega))), Nat.le_trans h.lo hb.size⟩
set_option maxRecDepth 100000 in
set_option maxHeartbeats 4000000 in
theorem ecol_any {ba bb bc bf : Nat} {a b c : Vl} (nm : ByteArray) (w : World) (h : EnvW ba bb bc bf a b c w) : Calls Tryz.prog 33 #[.string nm, .pointer (some ⟨ba, 0, none⟩), .pointer (some ⟨bb, 0, none⟩), .pointer (some ⟨bc, 0, none⟩)] w fun e w' => e = .returned (tupR (colR a b c nm)) ∧ Below w.heap.size w w' := by
  obtain ⟨W, hW⟩ : ∃ W, w.alloc (.cells #[.int .i64 0, .int .i64 0, .string ⟨#[]⟩] 39) = W := ⟨_, rfl⟩
  have hbW : Below w.heap.size w W := by rw [← hW]; exact (Below.refl _ _).alloc (Nat.le_refl _) _
  have hk0W : Blk (w.heap.size) Vl.none.cells 39 W := by
      have hq := Blk.new w Vl.none.cells 39
      rw [← hW]
      exact hq
  have G0 : Hid (Blk (w.heap.size) Vl.none.cells 39 W ∧ Below w.heap.size w W) := ⟨hk0W, hbW⟩
  clear hbW
  obtain ⟨z0, z1, z2, zf⟩ := hk0W.vc
  have hE := h.below G0.out.2
  obtain ⟨a0, a1, a2, af⟩ := hE.ka.vc
  obtain ⟨b0, b1, b2, bf0⟩ := hE.kb.vc
  obtain ⟨c0, c1, c2, cf⟩ := hE.kc.vc
  clear hk0W hE h
  obtain ⟨p1, hp1⟩ : ∃ p, (nm.toList == [97]) = p := ⟨_, rfl⟩
  obtain ⟨p2, hp2⟩ : ∃ p, (nm.toList == [98]) = p := ⟨_, rfl⟩
  obtain ⟨p3, hp3⟩ : ∃ p, (nm.toList == [99]) = p := ⟨_, rfl⟩
  have HR0 : Hid (colR a b c nm = if p1 then .ok a else if p2 then .ok b else if p3 then .ok c else .error 5) := by show _ = _; rw [colR, hp1, hp2, hp3]
  cases p1
  rotate_left
  · have HR : Hid (colR a b c nm = .ok a) := HR0
    clear HR0
    go_enter Tryz.func33, Tryz.ntmps33
    go_wp2
    refine bodyPost_ret (v := .tuple #[vv a, .nilIface]) (results_ct Tryz.results33 _ _ ⟨w.heap.size, 0, none⟩ rfl (load39 (put39_blk a G0.out.1))) rfl ?_
    exact ⟨by rw [HR.out]; rfl, put39_below a G0.out.2 (by omega)⟩
  cases p2
  rotate_left
  · have HR : Hid (colR a b c nm = .ok b) := HR0
    clear HR0
    go_enter Tryz.func33, Tryz.ntmps33
    go_wp2
    refine bodyPost_ret (v := .tuple #[vv b, .nilIface]) (results_ct Tryz.results33 _ _ ⟨w.heap.size, 0, none⟩ rfl (load39 (put39_blk b G0.out.1))) rfl ?_
    exact ⟨by rw [HR.out]; rfl, put39_below b G0.out.2 (by omega)⟩
  cases p3
  rotate_left
  · have HR : Hid (colR a b c nm = .ok c) := HR0
    clear HR0
    go_enter Tryz.func33, Tryz.ntmps33
    go_wp2
    refine bodyPost_ret (v := .tuple #[vv c, .nilIface]) (results_ct Tryz.results33 _ _ ⟨w.heap.size, 0, none⟩ rfl (load39 (put39_blk c G0.out.1))) rfl ?_
    exact ⟨by rw [HR.out]; rfl, put39_below c G0.out.2 (by omega)⟩
  have HR : Hid (colR a b c nm = .error 5) := HR0
  clear HR0
  go_enter Tryz.func33, Tryz.ntmps33
  go_wp2
  refine bodyPost_ret (v := .tuple #[vv .none, .iface 53 (.int .i64 5)]) (results_ct Tryz.results33 _ _ ⟨w.heap.size, 0, none⟩ rfl (load39 (put39_blk .none G0.out.1))) rfl ?_
  exact ⟨by rw [HR.out]; rfl, put39_below .none G0.out.2 (by omega)⟩
def errOf : Except Int Vl → Value
  | .ok _ => .nilIface
  | .error n => .iface 53 (.int .i64 n)
def valOf : Except Int Vl → Vl
  | .ok v => v
  | .error _ => .none
theorem tup_eq (r : Except Int Vl) : tupR r = .tuple #[vv (valOf r), errOf r] := by cases r <;> rfl
theorem err_cases (r : Except Int Vl) : errOf r = .nilIface ∨ ∃ n, errOf r = .iface 53 (.int .i64 n) := by
  cases r with
  | ok v => exact Or.inl rfl
  | error n => exact Or.inr ⟨n, rfl⟩
set_option maxRecDepth 100000 in
set_option maxHeartbeats 4000000 in
theorem emat_any {ba bb bc bf : Nat} {a b c : Vl} (nm tx : ByteArray) (w : World) (h : EnvW ba bb bc bf a b c w) : Calls Tryz.prog 34 #[.string nm, .string tx, .pointer (some ⟨bf, 0, none⟩)] w fun e w' => e = .returned (.tuple #[.bool ((valOf (colR a b c nm)).t.toList == tx.toList), errOf (colR a b c nm)]) ∧ Below w.heap.size w w' := by
  have H : Hid (EnvW ba bb bc bf a b c w) := h
  have k0 := h.kf
  obtain ⟨R, hR⟩ : ∃ R, colR a b c nm = R := ⟨_, rfl⟩
  have HR : Hid (colR a b c nm = R) := hR
  rw [hR]
  clear h hR
  go_enter Tryz.func34, Tryz.ntmps34
  go_wp2_with fail
  have h8 := ecol_any nm w H.out
  rw [HR.out, tup_eq] at h8
  refine h8.mono ?_
  clear h8
  rintro _ w1 ⟨rfl, hb⟩
  obtain ⟨rv, hrv⟩ : ∃ v, valOf R = v := ⟨_, rfl⟩
  obtain ⟨E, hE⟩ : ∃ v, errOf R = v := ⟨_, rfl⟩
  have hEc := err_cases R
  rw [hE] at hEc
  have HVE : Hid (valOf R = rv ∧ errOf R = E) := ⟨hrv, hE⟩
  rw [hrv, hE]
  obtain ⟨V, hV⟩ : ∃ V, w1.alloc (.cells #[.int .i64 rv.k, .int .i64 rv.n, .string rv.t] 39) = V := ⟨_, rfl⟩
  have hk : Blk w1.heap.size rv.cells 39 V := by rw [← hV]; exact Blk.new _ _ _
  have HB : Hid (Below w.heap.size w V) := hb.trans (by rw [← hV]; exact (Below.refl _ _).alloc hb.size _)
  obtain ⟨u0, u1, u2, uf⟩ := hk.vc
  obtain ⟨q, hq⟩ : ∃ q, (rv.t.toList == tx.toList) = q := ⟨_, rfl⟩
  have HQ : Hid ((rv.t.toList == tx.toList) = q) := hq
  clear hk hb hrv hE
  unfold vv
  rcases hEc with rfl | ⟨n, rfl⟩
  · go_wp2
    go_ret2
    exact ⟨by rw [HVE.out.1, HVE.out.2, HQ.out]; rfl, HB.out⟩
  · go_wp2
    go_ret2
    exact ⟨by rw [HVE.out.1, HVE.out.2, HQ.out]; rfl, HB.out⟩
end Go.Proofs.YtbdcbaamjkjhaaaGreatDoor
namespace Go.Proofs.YtbdcbaamjkjhaaaGreatDoor
open Go.RowKit

def nameOf : Ex → ByteArray
  | .nil => ⟨#[]⟩
  | .node _ _ nm _ _ => nm
def matR (r : Except Int Vl) (tx : ByteArray) : Except Int Vl := match r with
  | .ok x => .ok (truthV (x.t.toList == tx.toList))
  | .error n => .error n
def oneR (c : Int) (x : Vl) : Except Int Vl := if c = 3 then countR 7 (numV 0) x else if c = 4 then notR x else .ok (truthV (x.k == 0))
def bindR (r : Except Int Vl) (f : Vl → Except Int Vl) : Except Int Vl := match r with
  | .ok x => f x
  | .error n => .error n
/-- what an expression comes to -/
def evF (a b c : Vl) : Ex → Except Int Vl
  | .nil => .error 3
  | .node cd v nm l r => if formB (.node cd v nm l r) = false then .error 3 else if cd = 1 then .ok v else if cd = 2 then colR a b c nm else if cd = 17 then matR (colR a b c (nameOf l)) v.t else bindR (evF a b c l) fun x => if cd = 3 ∨ cd = 4 ∨ cd = 5 then oneR cd x else bindR (evF a b c r) fun y => twoR cd x y
/-- what come tells -/
def ToldE (r : Except Int Vl) (w : World) (e : Ending) (w' : World) : Prop := (∃ v, e = .returned (.tuple #[vv v, errOf r]) ∧ ∀ x, r = .ok x → v = x) ∧ Below w.heap.size w w'
def ComeSp (a b c : Vl) (e : Ex) : Prop := ∀ (ba bb bc bf : Nat) (p : Option Addr) (w : World), EnvW ba bb bc bf a b c w → ExAt w p e → Calls Tryz.prog 36 #[.agg #[.func (.func 33) #[] #[.pointer (some ⟨ba, 0, none⟩), .pointer (some ⟨bb, 0, none⟩), .pointer (some ⟨bc, 0, none⟩)], .func (.func 34) #[] #[.pointer (some ⟨bf, 0, none⟩)]], .pointer p] w fun r w' => ToldE (evF a b c e) w r w'
/-- come at work -/
structure CW (ba bb bc bf : Nat) (a b c : Vl) (p : Option Addr) (e : Ex) (w0 w : World) : Prop where
  kE : Blk w0.heap.size #[.func (.func 33) #[] #[.pointer (some ⟨ba, 0, none⟩), .pointer (some ⟨bb, 0, none⟩), .pointer (some ⟨bc, 0, none⟩)], .func (.func 34) #[] #[.pointer (some ⟨bf, 0, none⟩)]] 45 w
  kR : Blk (w0.heap.size + 1) Vl.none.cells 39 w
  env : EnvW ba bb bc bf a b c w
  ex : ExAt w p e
  be : Below w0.heap.size w0 w
theorem CW.below {ba bb bc bf : Nat} {a b c : Vl} {p : Option Addr} {e : Ex} {w0 w w' : World} (h : CW ba bb bc bf a b c p e w0 w) (hb : Below w.heap.size w w') : CW ba bb bc bf a b c p e w0 w' :=
  ⟨h.kE.below hb, h.kR.below hb, h.env.below hb, h.ex.below hb, h.be.trans (hb.mono h.be.size)⟩
theorem CW.e0 {ba bb bc bf : Nat} {a b c : Vl} {p : Option Addr} {e : Ex} {w0 w : World} (h : CW ba bb bc bf a b c p e w0 w) : w.cell? ⟨w0.heap.size, 0, none⟩ = some (.func (.func 33) #[] #[.pointer (some ⟨ba, 0, none⟩), .pointer (some ⟨bb, 0, none⟩), .pointer (some ⟨bc, 0, none⟩)]) ∧ w.cell? ⟨w0.heap.size, 1, none⟩ = some (.func (.func 34) #[] #[.pointer (some ⟨bf, 0, none⟩)]) := ⟨by rw [h.kE.cell 0]; rfl, by rw [h.kE.cell 1]; rfl⟩
set_option maxRecDepth 100000 in
set_option maxHeartbeats 4000000 in
theorem come_bad (a b c : Vl) (E : Ex) (hF : formB E = false) : ComeSp a b c E := by
  intro ba bb bc bf p w hE hX
  obtain ⟨W, hW⟩ : ∃ W, (w.alloc (.cells #[.func (.func 33) #[] #[.pointer (some ⟨ba, 0, none⟩), .pointer (some ⟨bb, 0, none⟩), .pointer (some ⟨bc, 0, none⟩)], .func (.func 34) #[] #[.pointer (some ⟨bf, 0, none⟩)]] 45)).alloc (.cells #[.int .i64 0, .int .i64 0, .string ⟨#[]⟩] 39) = W := ⟨_, rfl⟩
  have hbW : Below w.heap.size w W := by rw [← hW]; exact ((Below.refl _ _).alloc (Nat.le_refl _) _).alloc (by simp only [World.size_alloc]; omega) _
  have hkE : Blk w.heap.size #[.func (.func 33) #[] #[.pointer (some ⟨ba, 0, none⟩), .pointer (some ⟨bb, 0, none⟩), .pointer (some ⟨bc, 0, none⟩)], .func (.func 34) #[] #[.pointer (some ⟨bf, 0, none⟩)]] 45 W := by rw [← hW]; exact (Blk.new _ _ _).below ((Below.refl _ _).alloc (Nat.le_refl _) _)
  have hkR : Blk (w.heap.size + 1) Vl.none.cells 39 W := by
    have hq := Blk.new (w.alloc (.cells #[.func (.func 33) #[] #[.pointer (some ⟨ba, 0, none⟩), .pointer (some ⟨bb, 0, none⟩), .pointer (some ⟨bc, 0, none⟩)], .func (.func 34) #[] #[.pointer (some ⟨bf, 0, none⟩)]] 45)) Vl.none.cells 39
    simp only [World.size_alloc] at hq
    rw [← hW]
    exact hq
  have G0 : Hid (CW ba bb bc bf a b c p E w W) := ⟨hkE, hkR, hE.below hbW, hX.below hbW, hbW⟩
  clear hbW hkE hkR hE hX
  have he : evF a b c E = .error 3 := by
    cases E with
    | nil => rfl
    | node cd v nm l r => rw [evF, if_pos hF]
  rw [he]
  have HF : Hid (formB E = false) := hF
  clear he hF
  obtain ⟨c0, c1, c2, cf⟩ := G0.out.kR.vc
  go_enter Tryz.func36, Tryz.ntmps36
  go_wp2_with fail
  have h8 := formed_any E p W G0.out.ex
  rw [HF.out] at h8
  refine h8.mono ?_
  clear h8
  rintro _ w1 ⟨rfl, rfl⟩
  go_wp2
  refine bodyPost_ret (v := .tuple #[vv .none, .iface 53 (.int .i64 3)]) (results_ct Tryz.results36 _ _ ⟨w.heap.size + 1, 0, none⟩ rfl (load39 (put39_blk .none G0.out.kR))) rfl ?_
  exact ⟨⟨.none, rfl, fun x hx => by cases hx⟩, put39_below .none G0.out.be (by omega)⟩
set_option maxRecDepth 100000 in
set_option maxHeartbeats 4000000 in
theorem come_lit (a b c : Vl) (v : Vl) (nm : ByteArray) (l r : Ex) : ComeSp a b c (.node 1 v nm l r) := by
  intro ba bb bc bf p w hE hX
  obtain ⟨W, hW⟩ : ∃ W, (w.alloc (.cells #[.func (.func 33) #[] #[.pointer (some ⟨ba, 0, none⟩), .pointer (some ⟨bb, 0, none⟩), .pointer (some ⟨bc, 0, none⟩)], .func (.func 34) #[] #[.pointer (some ⟨bf, 0, none⟩)]] 45)).alloc (.cells #[.int .i64 0, .int .i64 0, .string ⟨#[]⟩] 39) = W := ⟨_, rfl⟩
  have hbW : Below w.heap.size w W := by rw [← hW]; exact ((Below.refl _ _).alloc (Nat.le_refl _) _).alloc (by simp only [World.size_alloc]; omega) _
  have hkE : Blk w.heap.size #[.func (.func 33) #[] #[.pointer (some ⟨ba, 0, none⟩), .pointer (some ⟨bb, 0, none⟩), .pointer (some ⟨bc, 0, none⟩)], .func (.func 34) #[] #[.pointer (some ⟨bf, 0, none⟩)]] 45 W := by rw [← hW]; exact (Blk.new _ _ _).below ((Below.refl _ _).alloc (Nat.le_refl _) _)
  have hkR : Blk (w.heap.size + 1) Vl.none.cells 39 W := by
    have hq := Blk.new (w.alloc (.cells #[.func (.func 33) #[] #[.pointer (some ⟨ba, 0, none⟩), .pointer (some ⟨bb, 0, none⟩), .pointer (some ⟨bc, 0, none⟩)], .func (.func 34) #[] #[.pointer (some ⟨bf, 0, none⟩)]] 45)) Vl.none.cells 39
    simp only [World.size_alloc] at hq
    rw [← hW]
    exact hq
  have G0 : Hid (CW ba bb bc bf a b c p (.node 1 v nm l r) w W) := ⟨hkE, hkR, hE.below hbW, hX.below hbW, hbW⟩
  clear hbW hkE hkR hE hX
  have hF : formB (.node 1 v nm l r) = true := rfl
  have he : evF a b c (.node 1 v nm l r) = .ok v := by rw [evF, if_neg (by rw [hF]; decide), if_pos rfl]
  rw [he]
  have HF : Hid (formB (.node 1 v nm l r) = true) := hF
  clear he hF
  obtain ⟨c0, c1, c2, cf⟩ := G0.out.kR.vc
  obtain ⟨B, pl, pr, rfl, hlt, ⟨n0, n1, n2, n3, n4, n5, n6⟩, ql, qr⟩ := G0.out.ex
  go_enter Tryz.func36, Tryz.ntmps36
  go_wp2_with fail
  have h8 := formed_any (.node 1 v nm l r) _ W G0.out.ex
  rw [HF.out] at h8
  refine h8.mono ?_
  clear h8
  rintro _ w1 ⟨rfl, rfl⟩
  go_wp2
  refine bodyPost_ret (v := .tuple #[vv v, .nilIface]) (results_ct Tryz.results36 _ _ ⟨w.heap.size + 1, 0, none⟩ rfl (load39 (put39_blk v G0.out.kR))) rfl ?_
  exact ⟨⟨v, rfl, fun x hx => by cases hx; rfl⟩, put39_below v G0.out.be (by omega)⟩
set_option maxRecDepth 100000 in
set_option maxHeartbeats 4000000 in
theorem come_col (a b c : Vl) (v : Vl) (nm : ByteArray) (l r : Ex) : ComeSp a b c (.node 2 v nm l r) := by
  intro ba bb bc bf p w hE hX
  obtain ⟨W, hW⟩ : ∃ W, (w.alloc (.cells #[.func (.func 33) #[] #[.pointer (some ⟨ba, 0, none⟩), .pointer (some ⟨bb, 0, none⟩), .pointer (some ⟨bc, 0, none⟩)], .func (.func 34) #[] #[.pointer (some ⟨bf, 0, none⟩)]] 45)).alloc (.cells #[.int .i64 0, .int .i64 0, .string ⟨#[]⟩] 39) = W := ⟨_, rfl⟩
  have hbW : Below w.heap.size w W := by rw [← hW]; exact ((Below.refl _ _).alloc (Nat.le_refl _) _).alloc (by simp only [World.size_alloc]; omega) _
  have hkE : Blk w.heap.size #[.func (.func 33) #[] #[.pointer (some ⟨ba, 0, none⟩), .pointer (some ⟨bb, 0, none⟩), .pointer (some ⟨bc, 0, none⟩)], .func (.func 34) #[] #[.pointer (some ⟨bf, 0, none⟩)]] 45 W := by rw [← hW]; exact (Blk.new _ _ _).below ((Below.refl _ _).alloc (Nat.le_refl _) _)
  have hkR : Blk (w.heap.size + 1) Vl.none.cells 39 W := by
    have hq := Blk.new (w.alloc (.cells #[.func (.func 33) #[] #[.pointer (some ⟨ba, 0, none⟩), .pointer (some ⟨bb, 0, none⟩), .pointer (some ⟨bc, 0, none⟩)], .func (.func 34) #[] #[.pointer (some ⟨bf, 0, none⟩)]] 45)) Vl.none.cells 39
    simp only [World.size_alloc] at hq
    rw [← hW]
    exact hq
  have G0 : Hid (CW ba bb bc bf a b c p (.node 2 v nm l r) w W) := ⟨hkE, hkR, hE.below hbW, hX.below hbW, hbW⟩
  clear hbW hkE hkR hE hX
  have hF : formB (.node 2 v nm l r) = true := rfl
  have he : evF a b c (.node 2 v nm l r) = colR a b c nm := by rw [evF, if_neg (by rw [hF]; decide), if_neg (by decide), if_pos rfl]
  rw [he]
  have HF : Hid (formB (.node 2 v nm l r) = true) := hF
  clear he hF
  obtain ⟨B, pl, pr, rfl, hlt, ⟨n0, n1, n2, n3, n4, n5, n6⟩, ql, qr⟩ := G0.out.ex
  obtain ⟨R, hR⟩ : ∃ R, colR a b c nm = R := ⟨_, rfl⟩
  have HR : Hid (colR a b c nm = R) := hR
  rw [hR]
  clear hR
  go_enter Tryz.func36, Tryz.ntmps36
  go_wp2_with fail
  have h8 := formed_any (.node 2 v nm l r) _ W G0.out.ex
  rw [HF.out] at h8
  refine h8.mono ?_
  clear h8
  rintro _ w1 ⟨rfl, rfl⟩
  go_upto_region 7 with fail
  have GX : Hid (CW ba bb bc bf a b c (some ⟨B, 0, none⟩) (.node 2 v nm l r) w w1.drew) := G0.out.below ((Below.refl _ _).drew)
  have d0 := GX.out.e0.1
  have d4 : w1.drew.cell? ⟨B, 4, none⟩ = some (.string nm) := n4
  go_region_law (go_wp2_with (go_at_call 33; have h8 := ecol_any nm _ GX.out.env; rw [HR.out, tup_eq] at h8; refine Calls.mono h8 ?_; clear h8; rintro _ w2 ⟨rfl, hb⟩; have GY : Hid (CW ba bb bc bf a b c (some ⟨B, 0, none⟩) (.node 2 v nm l r) w w2) := GX.out.below hb; obtain ⟨r0, r1, r2, rf⟩ := GY.out.kR.vc; clear hb; unfold vv))
  all_goals
    go_wp2_with fail
    refine bodyPost_ret (v := .tuple #[vv (valOf R), errOf R]) (results_ct Tryz.results36 _ _ ⟨w.heap.size + 1, 0, none⟩ rfl (load39 (put39_blk (valOf R) GY.out.kR))) rfl ?_
    exact ⟨⟨valOf R, rfl, fun x hx => by rw [hx]; rfl⟩, put39_below (valOf R) GY.out.be (by omega)⟩
set_option maxRecDepth 100000 in
set_option maxHeartbeats 4000000 in
theorem come_mat (a b c : Vl) (v v2 : Vl) (nm nm2 : ByteArray) (l2 r2 r : Ex) : ComeSp a b c (.node 17 v nm (.node 2 v2 nm2 l2 r2) r) := by
  intro ba bb bc bf p w hE hX
  obtain ⟨W, hW⟩ : ∃ W, (w.alloc (.cells #[.func (.func 33) #[] #[.pointer (some ⟨ba, 0, none⟩), .pointer (some ⟨bb, 0, none⟩), .pointer (some ⟨bc, 0, none⟩)], .func (.func 34) #[] #[.pointer (some ⟨bf, 0, none⟩)]] 45)).alloc (.cells #[.int .i64 0, .int .i64 0, .string ⟨#[]⟩] 39) = W := ⟨_, rfl⟩
  have hbW : Below w.heap.size w W := by rw [← hW]; exact ((Below.refl _ _).alloc (Nat.le_refl _) _).alloc (by simp only [World.size_alloc]; omega) _
  have hkE : Blk w.heap.size #[.func (.func 33) #[] #[.pointer (some ⟨ba, 0, none⟩), .pointer (some ⟨bb, 0, none⟩), .pointer (some ⟨bc, 0, none⟩)], .func (.func 34) #[] #[.pointer (some ⟨bf, 0, none⟩)]] 45 W := by rw [← hW]; exact (Blk.new _ _ _).below ((Below.refl _ _).alloc (Nat.le_refl _) _)
  have hkR : Blk (w.heap.size + 1) Vl.none.cells 39 W := by
    have hq := Blk.new (w.alloc (.cells #[.func (.func 33) #[] #[.pointer (some ⟨ba, 0, none⟩), .pointer (some ⟨bb, 0, none⟩), .pointer (some ⟨bc, 0, none⟩)], .func (.func 34) #[] #[.pointer (some ⟨bf, 0, none⟩)]] 45)) Vl.none.cells 39
    simp only [World.size_alloc] at hq
    rw [← hW]
    exact hq
  have G0 : Hid (CW ba bb bc bf a b c p (.node 17 v nm (.node 2 v2 nm2 l2 r2) r) w W) := ⟨hkE, hkR, hE.below hbW, hX.below hbW, hbW⟩
  clear hbW hkE hkR hE hX
  have hF : formB (.node 17 v nm (.node 2 v2 nm2 l2 r2) r) = true := rfl
  have he : evF a b c (.node 17 v nm (.node 2 v2 nm2 l2 r2) r) = matR (colR a b c nm2) v.t := by rw [evF, if_neg (by rw [hF]; decide), if_neg (by decide), if_neg (by decide), if_pos rfl]; rfl
  rw [he]
  have HF : Hid (formB (.node 17 v nm (.node 2 v2 nm2 l2 r2) r) = true) := hF
  clear he hF
  obtain ⟨B, pl, pr, rfl, hlt, ⟨n0, n1, n2, n3, n4, n5, n6⟩, ql, qr⟩ := G0.out.ex
  obtain ⟨B2, pl2, pr2, rfl, hlt2, ⟨m0, m1, m2, m3, m4, m5, m6⟩, _, _⟩ := ql
  obtain ⟨R, hR⟩ : ∃ R, colR a b c nm2 = R := ⟨_, rfl⟩
  have HR : Hid (colR a b c nm2 = R) := hR
  rw [hR]
  clear hR
  go_enter Tryz.func36, Tryz.ntmps36
  go_wp2_with fail
  have h8 := formed_any (.node 17 v nm (.node 2 v2 nm2 l2 r2) r) _ W G0.out.ex
  rw [HF.out] at h8
  refine h8.mono ?_
  clear h8
  rintro _ w1 ⟨rfl, rfl⟩
  go_upto_region 9 with fail
  go_cut [6, 7] (fun a6 a7 wx => a6 = .bool ((valOf R).t.toList == v.t.toList) ∧ a7 = errOf R ∧ Hid (CW ba bb bc bf a b c (some ⟨B, 0, none⟩) (.node 17 v nm (.node 2 v2 nm2 l2 r2) r) w wx))
  case first =>
    have GX : Hid (CW ba bb bc bf a b c (some ⟨B, 0, none⟩) (.node 17 v nm (.node 2 v2 nm2 l2 r2) r) w w1.drew) := G0.out.below ((Below.refl _ _).drew)
    have d0 := GX.out.e0.2
    have d5 : w1.drew.cell? ⟨B, 5, none⟩ = some (.pointer (some ⟨B2, 0, none⟩)) := n5
    have d3 : w1.drew.cell? ⟨B, 3, none⟩ = some (.string v.t) := n3
    have d4 : w1.drew.cell? ⟨B2, 4, none⟩ = some (.string nm2) := m4
    have HK : Hid (∀ wx, Below w1.drew.heap.size w1.drew wx → wx.cell? ⟨w.heap.size, 1, none⟩ = some (.func (.func 34) #[] #[.pointer (some ⟨bf, 0, none⟩)]) ∧ wx.cell? ⟨B, 5, none⟩ = some (.pointer (some ⟨B2, 0, none⟩)) ∧ wx.cell? ⟨B, 3, none⟩ = some (.string v.t) ∧ wx.cell? ⟨B2, 4, none⟩ = some (.string nm2)) := fun wx hb => ⟨(hb.cell (p := ⟨w.heap.size, 1, none⟩) (by have := (Array.getElem?_eq_some_iff.1 GX.out.kE).1; exact this)).trans d0, (hb.cell (p := ⟨B, 5, none⟩) hlt).trans d5, (hb.cell (p := ⟨B, 3, none⟩) hlt).trans d3, (hb.cell (p := ⟨B2, 4, none⟩) hlt2).trans d4⟩
    have HBx : Hid (Below w1.drew.heap.size w1.drew w1.drew) := Below.refl _ _
    go_region_held3 (fun wx => wx.cell? ⟨w.heap.size, 1, none⟩ = some (.func (.func 34) #[] #[.pointer (some ⟨bf, 0, none⟩)]) ∧ wx.cell? ⟨B, 5, none⟩ = some (.pointer (some ⟨B2, 0, none⟩)) ∧ wx.cell? ⟨B, 3, none⟩ = some (.string v.t) ∧ wx.cell? ⟨B2, 4, none⟩ = some (.string nm2)) (exact HK.out _ HBx.out) ((go_at_call 34; have h8 := emat_any nm2 v.t _ GX.out.env; rw [HR.out] at h8; refine Calls.mono h8 ?_; clear h8; rintro _ w2 ⟨rfl, hb⟩; have HBx : Hid (Below w1.drew.heap.size w1.drew w2) := hb; have GX : Hid (CW ba bb bc bf a b c (some ⟨B, 0, none⟩) (.node 17 v nm (.node 2 v2 nm2 l2 r2) r) w w2) := GX.out.below hb; clear hb))
    go_wp2_with fail
    go_meet
    case rel => exact ⟨rfl, rfl, GX⟩
  case rest =>
  obtain ⟨rfl, rfl, GY⟩ := hcut
  obtain ⟨w3, hw3⟩ : ∃ u, u = wc := ⟨_, rfl⟩
  subst hw3
  clear n0 n1 n2 n3 n4 n5 n6 m0 m1 m2 m3 m4 m5 m6 hlt hlt2
  obtain ⟨q, hq⟩ : ∃ q, ((valOf R).t.toList == v.t.toList) = q := ⟨_, rfl⟩
  have HQ : Hid (((valOf R).t.toList == v.t.toList) = q) := hq
  rw [hq]
  clear hq
  go_wp2_with fail
  refine (truth_any q w3).mono ?_
  rintro _ w4 ⟨rfl, hb⟩
  have GZ : Hid (CW ba bb bc bf a b c (some ⟨B, 0, none⟩) (.node 17 v nm (.node 2 v2 nm2 l2 r2) r) w w4) := GY.out.below hb
  obtain ⟨r0, r1, r2, rf⟩ := GZ.out.kR.vc
  clear hb
  unfold vv
  go_wp2
  refine bodyPost_ret (v := .tuple #[vv (truthV q), errOf R]) (results_ct Tryz.results36 _ _ ⟨w.heap.size + 1, 0, none⟩ rfl (load39 (put39_blk (truthV q) GZ.out.kR))) rfl ?_
  refine ⟨⟨truthV q, by cases R <;> rfl, fun x hx => ?_⟩, put39_below (truthV q) GZ.out.be (by omega)⟩
  cases R with
  | ok y => cases hx; rw [← HQ.out]; rfl
  | error n => cases hx
end Go.Proofs.YtbdcbaamjkjhaaaGreatDoor
