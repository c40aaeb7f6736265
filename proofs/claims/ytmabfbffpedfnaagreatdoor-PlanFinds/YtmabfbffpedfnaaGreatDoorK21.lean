/- Part 21 of 30. -/
import Derived.Test.YtmabfbffpedfnaaGreatDoorK20
import Derived.Deep.RegionLaw
namespace Go.Proofs.YtmabfbffpedfnaaGreatDoor
open Go.RowKit

def twoR (c : Int) (a b : Vl) : Except Int Vl := if c = 6 ∨ c = 7 ∨ c = 8 then countR c a b else if c = 15 ∨ c = 16 then bothR c a b else .ok (cmpR c a b)
theorem tupR_ok {r : Except Int Vl} : ∃ v E, tupR r = .tuple #[vv v, E] ∧ (E = .nilIface ∨ ∃ n, E = .iface 82 (.int .i64 n)) := by
  cases r with
  | ok v => exact ⟨v, _, rfl, Or.inl rfl⟩
  | error n => exact ⟨.none, _, rfl, Or.inr ⟨n, rfl⟩⟩
set_option maxRecDepth 100000 in
set_option maxHeartbeats 4000000 in
theorem two_any (c : Int) (a b : Vl) (w : World) (hv : w.rangeAt 0 0 askCells) (hlo : 12 ≤ w.heap.size) : Calls Tryz.prog 58 #[.int .i64 c, vv a, vv b] w fun e w' => e = .returned (tupR (twoR c a b)) ∧ Below w.heap.size w w' := by
  obtain ⟨W, hW⟩ : ∃ W, ((w.alloc (.cells #[.int .i64 a.k, .int .i64 a.n, .string a.t] 23)).alloc (.cells #[.int .i64 b.k, .int .i64 b.n, .string b.t] 23)).alloc (.cells #[.int .i64 0, .int .i64 0, .string ⟨#[]⟩] 23) = W := ⟨_, rfl⟩
  have hbW : Below w.heap.size w W := by rw [← hW]; exact (((Below.refl _ _).alloc (Nat.le_refl _) _).alloc (by simp only [World.size_alloc]; omega) _).alloc (by simp only [World.size_alloc]; omega) _
  have hk0W : Blk (w.heap.size) a.cells 23 W := by
      have hq := Blk.new w a.cells 23
      rw [← hW]
      exact hq.below (((Below.refl _ _).alloc (Nat.le_refl _) _).alloc (by simp only [World.size_alloc]; omega) _)
  have hk1W : Blk (w.heap.size + 1) b.cells 23 W := by
      have hq := Blk.new (w.alloc (.cells a.cells 23)) b.cells 23
      simp only [World.size_alloc] at hq
      rw [← hW]
      exact hq.below ((Below.refl _ _).alloc (Nat.le_refl _) _)
  have hk2W : Blk (w.heap.size + 2) Vl.none.cells 23 W := by
      have hq := Blk.new ((w.alloc (.cells a.cells 23)).alloc (.cells b.cells 23)) Vl.none.cells 23
      simp only [World.size_alloc, Nat.add_assoc, Nat.reduceAdd] at hq
      rw [← hW]
      exact hq
  have G0 : Hid (Blk (w.heap.size) a.cells 23 W ∧ Blk (w.heap.size + 1) b.cells 23 W ∧ Blk (w.heap.size + 2) Vl.none.cells 23 W ∧ Below w.heap.size w W) := ⟨hk0W, hk1W, hk2W, hbW⟩
  clear hbW
  obtain ⟨x0, x1, x2, xf⟩ := hk0W.vc
  obtain ⟨y0, y1, y2, yf⟩ := hk1W.vc
  clear hk0W hk1W hk2W
  have HV : Hid (W.rangeAt 0 0 askCells ∧ 12 ≤ W.heap.size) := ⟨range_keep hv (fun q => World.cell?_of_block (w := w) (a := ⟨0, q, none⟩) (G0.out.2.2.2.block 0 (by omega))), by have := G0.out.2.2.2.size; omega⟩
  clear hv hlo
  show Calls _ _ #[_, .agg #[.int .i64 a.k, .int .i64 a.n, .string a.t], .agg #[.int .i64 b.k, .int .i64 b.n, .string b.t]] _ _
  by_cases h6 : c = 6
  · subst h6
    rw [show twoR 6 a b = countR 6 a b from if_pos (by decide)]
    obtain ⟨R, hR⟩ : ∃ R, countR 6 a b = R := ⟨_, rfl⟩
    have HR : Hid (countR 6 a b = R) := hR
    rw [hR]
    clear hR 
    go_enter Tryz.func58, Tryz.ntmps58
    go_wp2_with fail
    refine ((by have h8 := count_any 6 a b W; rw [HR.out] at h8; exact h8 : Calls Tryz.prog 55 #[.int .i64 6, vv a, vv b] W fun e w' => e = .returned (tupR R) ∧ Below W.heap.size W w')).mono ?_
    rintro _ w1 ⟨rfl, hb⟩
    have H1 : Hid (Blk (w.heap.size + 2) Vl.none.cells 23 w1 ∧ Below w.heap.size w w1) := ⟨G0.out.2.2.1.below hb, G0.out.2.2.2.trans (hb.mono G0.out.2.2.2.size)⟩
    obtain ⟨u0, u1, u2, uf⟩ := H1.out.1.vc
    clear hb
    obtain ⟨rv, E, he, hE⟩ := tupR_ok (r := R)
    have HEq : Hid (tupR R = .tuple #[vv rv, E]) := he
    rw [he]
    clear he
    unfold vv
    rcases hE with rfl | ⟨n, rfl⟩
    · go_wp2
      refine bodyPost_ret (v := .tuple #[vv rv, .nilIface]) (results_ct Tryz.results58 _ _ ⟨w.heap.size + 2, 0, none⟩ rfl (load39 (put39_blk rv H1.out.1))) rfl ?_
      exact ⟨by rw [HEq.out], put39_below rv H1.out.2 (by omega)⟩
    · go_wp2
      refine bodyPost_ret (v := .tuple #[vv rv, .iface 82 (.int .i64 n)]) (results_ct Tryz.results58 _ _ ⟨w.heap.size + 2, 0, none⟩ rfl (load39 (put39_blk rv H1.out.1))) rfl ?_
      exact ⟨by rw [HEq.out], put39_below rv H1.out.2 (by omega)⟩
  have b6 : (c == 6) = false := beq_f h6
  by_cases h7 : c = 7
  · subst h7
    rw [show twoR 7 a b = countR 7 a b from if_pos (by decide)]
    obtain ⟨R, hR⟩ : ∃ R, countR 7 a b = R := ⟨_, rfl⟩
    have HR : Hid (countR 7 a b = R) := hR
    rw [hR]
    clear hR 
    go_enter Tryz.func58, Tryz.ntmps58
    go_wp2_with fail
    refine ((by have h8 := count_any 7 a b W; rw [HR.out] at h8; exact h8 : Calls Tryz.prog 55 #[.int .i64 7, vv a, vv b] W fun e w' => e = .returned (tupR R) ∧ Below W.heap.size W w')).mono ?_
    rintro _ w1 ⟨rfl, hb⟩
    have H1 : Hid (Blk (w.heap.size + 2) Vl.none.cells 23 w1 ∧ Below w.heap.size w w1) := ⟨G0.out.2.2.1.below hb, G0.out.2.2.2.trans (hb.mono G0.out.2.2.2.size)⟩
    obtain ⟨u0, u1, u2, uf⟩ := H1.out.1.vc
    clear hb
    obtain ⟨rv, E, he, hE⟩ := tupR_ok (r := R)
    have HEq : Hid (tupR R = .tuple #[vv rv, E]) := he
    rw [he]
    clear he
    unfold vv
    rcases hE with rfl | ⟨n, rfl⟩
    · go_wp2
      refine bodyPost_ret (v := .tuple #[vv rv, .nilIface]) (results_ct Tryz.results58 _ _ ⟨w.heap.size + 2, 0, none⟩ rfl (load39 (put39_blk rv H1.out.1))) rfl ?_
      exact ⟨by rw [HEq.out], put39_below rv H1.out.2 (by omega)⟩
    · go_wp2
      refine bodyPost_ret (v := .tuple #[vv rv, .iface 82 (.int .i64 n)]) (results_ct Tryz.results58 _ _ ⟨w.heap.size + 2, 0, none⟩ rfl (load39 (put39_blk rv H1.out.1))) rfl ?_
      exact ⟨by rw [HEq.out], put39_below rv H1.out.2 (by omega)⟩
  have b7 : (c == 7) = false := beq_f h7
  by_cases h8 : c = 8
  · subst h8
    rw [show twoR 8 a b = countR 8 a b from if_pos (by decide)]
    obtain ⟨R, hR⟩ : ∃ R, countR 8 a b = R := ⟨_, rfl⟩
    have HR : Hid (countR 8 a b = R) := hR
    rw [hR]
    clear hR 
    go_enter Tryz.func58, Tryz.ntmps58
    go_wp2_with fail
    refine ((by have h8 := count_any 8 a b W; rw [HR.out] at h8; exact h8 : Calls Tryz.prog 55 #[.int .i64 8, vv a, vv b] W fun e w' => e = .returned (tupR R) ∧ Below W.heap.size W w')).mono ?_
    rintro _ w1 ⟨rfl, hb⟩
    have H1 : Hid (Blk (w.heap.size + 2) Vl.none.cells 23 w1 ∧ Below w.heap.size w w1) := ⟨G0.out.2.2.1.below hb, G0.out.2.2.2.trans (hb.mono G0.out.2.2.2.size)⟩
    obtain ⟨u0, u1, u2, uf⟩ := H1.out.1.vc
    clear hb
    obtain ⟨rv, E, he, hE⟩ := tupR_ok (r := R)
    have HEq : Hid (tupR R = .tuple #[vv rv, E]) := he
    rw [he]
    clear he
    unfold vv
    rcases hE with rfl | ⟨n, rfl⟩
    · go_wp2
      refine bodyPost_ret (v := .tuple #[vv rv, .nilIface]) (results_ct Tryz.results58 _ _ ⟨w.heap.size + 2, 0, none⟩ rfl (load39 (put39_blk rv H1.out.1))) rfl ?_
      exact ⟨by rw [HEq.out], put39_below rv H1.out.2 (by omega)⟩
    · go_wp2
      refine bodyPost_ret (v := .tuple #[vv rv, .iface 82 (.int .i64 n)]) (results_ct Tryz.results58 _ _ ⟨w.heap.size + 2, 0, none⟩ rfl (load39 (put39_blk rv H1.out.1))) rfl ?_
      exact ⟨by rw [HEq.out], put39_below rv H1.out.2 (by omega)⟩
  have b8 : (c == 8) = false := beq_f h8
  by_cases h15 : c = 15
  · subst h15
    rw [show twoR 15 a b = bothR 15 a b by rw [twoR, if_neg (by decide), if_pos (by decide)]]
    clear h6 h7 h8 
    obtain ⟨R, hR⟩ : ∃ R, bothR 15 a b = R := ⟨_, rfl⟩
    have HR : Hid (bothR 15 a b = R) := hR
    rw [hR]
    clear hR 
    go_enter Tryz.func58, Tryz.ntmps58
    go_wp2_with fail
    refine ((by have h8 := both_any 15 a b W; rw [HR.out] at h8; exact h8 : Calls Tryz.prog 73 #[.int .i64 15, vv a, vv b] W fun e w' => e = .returned (tupR R) ∧ Below W.heap.size W w')).mono ?_
    rintro _ w1 ⟨rfl, hb⟩
    have H1 : Hid (Blk (w.heap.size + 2) Vl.none.cells 23 w1 ∧ Below w.heap.size w w1) := ⟨G0.out.2.2.1.below hb, G0.out.2.2.2.trans (hb.mono G0.out.2.2.2.size)⟩
    obtain ⟨u0, u1, u2, uf⟩ := H1.out.1.vc
    clear hb
    obtain ⟨rv, E, he, hE⟩ := tupR_ok (r := R)
    have HEq : Hid (tupR R = .tuple #[vv rv, E]) := he
    rw [he]
    clear he
    unfold vv
    rcases hE with rfl | ⟨n, rfl⟩
    · go_wp2
      refine bodyPost_ret (v := .tuple #[vv rv, .nilIface]) (results_ct Tryz.results58 _ _ ⟨w.heap.size + 2, 0, none⟩ rfl (load39 (put39_blk rv H1.out.1))) rfl ?_
      exact ⟨by rw [HEq.out], put39_below rv H1.out.2 (by omega)⟩
    · go_wp2
      refine bodyPost_ret (v := .tuple #[vv rv, .iface 82 (.int .i64 n)]) (results_ct Tryz.results58 _ _ ⟨w.heap.size + 2, 0, none⟩ rfl (load39 (put39_blk rv H1.out.1))) rfl ?_
      exact ⟨by rw [HEq.out], put39_below rv H1.out.2 (by omega)⟩
  have b15 : (c == 15) = false := beq_f h15
  by_cases h16 : c = 16
  · subst h16
    rw [show twoR 16 a b = bothR 16 a b by rw [twoR, if_neg (by decide), if_pos (by decide)]]
    clear h6 h7 h8 h15
    obtain ⟨R, hR⟩ : ∃ R, bothR 16 a b = R := ⟨_, rfl⟩
    have HR : Hid (bothR 16 a b = R) := hR
    rw [hR]
    clear hR 
    go_enter Tryz.func58, Tryz.ntmps58
    go_wp2_with fail
    refine ((by have h8 := both_any 16 a b W; rw [HR.out] at h8; exact h8 : Calls Tryz.prog 73 #[.int .i64 16, vv a, vv b] W fun e w' => e = .returned (tupR R) ∧ Below W.heap.size W w')).mono ?_
    rintro _ w1 ⟨rfl, hb⟩
    have H1 : Hid (Blk (w.heap.size + 2) Vl.none.cells 23 w1 ∧ Below w.heap.size w w1) := ⟨G0.out.2.2.1.below hb, G0.out.2.2.2.trans (hb.mono G0.out.2.2.2.size)⟩
    obtain ⟨u0, u1, u2, uf⟩ := H1.out.1.vc
    clear hb
    obtain ⟨rv, E, he, hE⟩ := tupR_ok (r := R)
    have HEq : Hid (tupR R = .tuple #[vv rv, E]) := he
    rw [he]
    clear he
    unfold vv
    rcases hE with rfl | ⟨n, rfl⟩
    · go_wp2
      refine bodyPost_ret (v := .tuple #[vv rv, .nilIface]) (results_ct Tryz.results58 _ _ ⟨w.heap.size + 2, 0, none⟩ rfl (load39 (put39_blk rv H1.out.1))) rfl ?_
      exact ⟨by rw [HEq.out], put39_below rv H1.out.2 (by omega)⟩
    · go_wp2
      refine bodyPost_ret (v := .tuple #[vv rv, .iface 82 (.int .i64 n)]) (results_ct Tryz.results58 _ _ ⟨w.heap.size + 2, 0, none⟩ rfl (load39 (put39_blk rv H1.out.1))) rfl ?_
      exact ⟨by rw [HEq.out], put39_below rv H1.out.2 (by omega)⟩
  have b16 : (c == 16) = false := beq_f h16
  rw [show twoR c a b = .ok (cmpR c a b) by rw [twoR, if_neg (by omega), if_neg (by omega)]]
  clear h6 h7 h8 h15 h16
  go_enter Tryz.func58, Tryz.ntmps58
  go_wp2_with fail
  refine (compare_any c a b W HV.out.1 HV.out.2).mono ?_
  rintro _ w1 ⟨rfl, hb⟩
  have H1 : Hid (Blk (w.heap.size + 2) Vl.none.cells 23 w1 ∧ Below w.heap.size w w1) := ⟨G0.out.2.2.1.below hb, G0.out.2.2.2.trans (hb.mono G0.out.2.2.2.size)⟩
  obtain ⟨u0, u1, u2, uf⟩ := H1.out.1.vc
  clear hb
  obtain ⟨rv, hrv⟩ : ∃ r, cmpR c a b = r := ⟨_, rfl⟩
  have HRV : Hid (cmpR c a b = rv) := hrv
  rw [hrv]
  clear hrv
  unfold vv
  go_wp2
  refine bodyPost_ret (v := .tuple #[vv rv, .nilIface]) (results_ct Tryz.results58 _ _ ⟨w.heap.size + 2, 0, none⟩ rfl (load39 (put39_blk rv H1.out.1))) rfl ?_
  exact ⟨by rw [HRV.out]; rfl, put39_below rv H1.out.2 (by omega)⟩
set_option maxRecDepth 100000 in
set_option maxHeartbeats 4000000 in
theorem own_any (v : Vl) (w : World) (hs : v.t.size ≤ 100000) : Calls Tryz.prog 30 #[vv v] w fun e w' => e = .returned (vv v) ∧ Below w.heap.size w w' := by
  obtain ⟨W, hW⟩ : ∃ W, (w.alloc (.cells #[.int .i64 v.k, .int .i64 v.n, .string v.t] 23)).alloc (.cells #[.int .i64 0, .int .i64 0, .string ⟨#[]⟩] 23) = W := ⟨_, rfl⟩
  have hbW : Below w.heap.size w W := by rw [← hW]; exact ((Below.refl _ _).alloc (Nat.le_refl _) _).alloc (by simp only [World.size_alloc]; omega) _
  have hk0W : Blk (w.heap.size) v.cells 23 W := by
      have hq := Blk.new w v.cells 23
      rw [← hW]
      exact hq.below ((Below.refl _ _).alloc (Nat.le_refl _) _)
  have hk1W : Blk (w.heap.size + 1) Vl.none.cells 23 W := by
      have hq := Blk.new (w.alloc (.cells v.cells 23)) Vl.none.cells 23
      simp only [World.size_alloc] at hq
      rw [← hW]
      exact hq
  have G0 : Hid (Blk (w.heap.size) v.cells 23 W ∧ Blk (w.heap.size + 1) Vl.none.cells 23 W ∧ Below w.heap.size w W) := ⟨hk0W, hk1W, hbW⟩
  clear hbW
  obtain ⟨x0, x1, x2, xf⟩ := hk0W.vc
  have HS : Hid (v.t.size ≤ 100000) := hs
  clear hk0W hk1W hs
  show Calls _ _ #[.agg #[.int .i64 v.k, .int .i64 v.n, .string v.t]] _ _
  go_enter Tryz.func30, Tryz.ntmps30
  go_wp2_with fail
  refine (clone_ok v.t W HS.out).mono ?_
  rintro _ w1 ⟨rfl, hb⟩
  have H1 : Hid (Blk w.heap.size v.cells 23 w1 ∧ Blk (w.heap.size + 1) Vl.none.cells 23 w1 ∧ Below w.heap.size w w1) := ⟨G0.out.1.below hb, G0.out.2.1.below hb, G0.out.2.2.trans (hb.mono G0.out.2.2.size)⟩
  obtain ⟨V, hV⟩ : ∃ V, w1.setCell ⟨w.heap.size, 2, none⟩ (.string v.t) = V := ⟨_, rfl⟩
  have H2 : Hid (Blk w.heap.size v.cells 23 V ∧ Blk (w.heap.size + 1) Vl.none.cells 23 V ∧ Below w.heap.size w V) := by
    rw [← hV]
    refine ⟨?_, H1.out.2.1.other (by omega) 2 _, H1.out.2.2.setCell (Nat.le_refl _) _⟩
    have := H1.out.1.set 2 (.string v.t)
    simpa [Vl.cells] using this
  obtain ⟨u0, u1, u2, uf⟩ := H1.out.1.vc
  obtain ⟨p0, p1, p2, pf⟩ := H2.out.1.vc
  obtain ⟨q0, q1, q2, qf⟩ := H2.out.2.1.vc
  clear hb
  go_wp2
  refine bodyPost_ret (v := vv v) (results_c Tryz.results30 _ _ ⟨w.heap.size + 1, 0, none⟩ rfl (load39 (put39_blk v H2.out.2.1))) rfl ?_
  exact ⟨rfl, put39_below v H2.out.2.2 (by omega)⟩
def formB : Ex → Bool
  | .nil => false
  | .node c _ _ l _ => decide (1 ≤ c) && decide (c ≤ 17) && (decide (c ≠ 17) || decide (l.code = 2))
set_option maxRecDepth 100000 in
set_option maxHeartbeats 4000000 in
theorem formed_any (e : Ex) (p : Option Addr) (w : World) (h : ExAt w p e) : Calls Tryz.prog 53 #[.pointer p] w fun r w' => r = .returned (.bool (formB e)) ∧ w' = w := by
  cases e with
  | nil =>
    obtain rfl : p = none := h
    go_enter Tryz.func53, Tryz.ntmps53
    go_wp2
    go_ret
    exact ⟨rfl, rfl⟩
  | node c v nm l r =>
    obtain ⟨B, pl, pr, rfl, _, ⟨c0, c1, c2, c3, c4, c5, c6⟩, ql, qr⟩ := h
    by_cases h1 : c < 1
    · rw [show formB (.node c v nm l r) = false by rw [formB, decide_eq_false (show ¬ 1 ≤ c by omega)]; rfl]
      have d1 : decide (c < 1) = true := decide_eq_true h1
      clear h1 ql qr
      go_enter Tryz.func53, Tryz.ntmps53
      go_wp2
      go_ret
      exact ⟨rfl, rfl⟩
    have d1 : decide (c < 1) = false := decide_eq_false h1
    by_cases h2 : 17 < c
    · rw [show formB (.node c v nm l r) = false by rw [formB, decide_eq_false (show ¬ c ≤ 17 by omega), Bool.and_false]; rfl]
      have d2 : decide (17 < c) = true := decide_eq_true h2
      clear h1 h2 ql qr
      go_enter Tryz.func53, Tryz.ntmps53
      go_wp2
      go_ret
      exact ⟨rfl, rfl⟩
    have d2 : decide (17 < c) = false := decide_eq_false h2
    by_cases h3 : c = 17
    rotate_left
    · rw [show formB (.node c v nm l r) = true by rw [formB, decide_eq_true (show 1 ≤ c by omega), decide_eq_true (show c ≤ 17 by omega), decide_eq_true h3]; rfl]
      have d3 : (c != 17) = true := bne_t h3
      clear h1 h2 h3 ql qr
      go_enter Tryz.func53, Tryz.ntmps53
      go_wp2
      go_ret
      exact ⟨rfl, rfl⟩
    subst h3
    clear h1 h2 d1 d2 qr
    cases l with
    | nil =>
      obtain rfl : pl = none := ql
      rw [show formB (.node 17 v nm .nil r) = false from rfl]
      go_enter Tryz.func53, Tryz.ntmps53
      go_wp2
      go_ret
      exact ⟨rfl, rfl⟩
    | node d v2 nm2 l2 r2 =>
      obtain ⟨B2, pl2, pr2, rfl, _, ⟨e0, _⟩, _, _⟩ := ql
      have ef : formB (.node 17 v nm (.node d v2 nm2 l2 r2) r) = (d == 2) := by
        show (decide (1 ≤ (17 : Int)) && decide ((17 : Int) ≤ 17) && (decide ((17 : Int) ≠ 17) || decide (d = 2))) = _
        simp
        by_cases hd : d = 2 <;> simp [hd]
      rw [ef]
      clear ef
      obtain ⟨q, hq⟩ : ∃ q, (d == 2) = q := ⟨_, rfl⟩
      rw [hq]
      go_enter Tryz.func53, Tryz.ntmps53
      go_wp2
      go_ret
      exact ⟨rfl, rfl⟩
end Go.Proofs.YtmabfbffpedfnaaGreatDoor
namespace Go.Proofs.YtmabfbffpedfnaaGreatDoor
open Go.RowKit

def preB (s p : ByteArray) : Bool := p.data.toList.isPrefixOf s.data.toList
theorem preB_size {s p : ByteArray} (h : preB s p = true) : p.size ≤ s.size := by
  have := congrArg List.length (pre_len h)
  rw [List.length_take, ba_len, ba_len] at this
  omega
def cutB (s p : ByteArray) : ByteArray := if preB s p then s.extract p.size s.size else s
theorem trimL_any (s p : ByteArray) (w : World) : Calls Tryz.prog 27 #[.string s, .string p] w fun x w' => x = .returned (.string (cutB s p)) ∧ w' = w := by
  obtain ⟨b, hb⟩ : ∃ b, preB s p = b := ⟨_, rfl⟩
  have HB : Hid (p.data.toList.isPrefixOf s.data.toList = b) := hb
  cases b
  · have HC : Hid (cutB s p = s) := by show _ = _; rw [cutB, hb]; rfl
    clear hb
    go_enter Tryz.func27, Tryz.ntmps27
    go_wp2_with (go_at_call 50; refine (prefix_lite _ _ false HB.out _).mono ?_; rintro e w' ⟨rfl, rfl⟩)
    go_ret
    exact ⟨by rw [HC.out]; rfl, rfl⟩
  · have HC : Hid (cutB s p = s.extract p.size s.size) := by show _ = _; rw [cutB, hb]; rfl
    have h1 : p.size ≤ s.size := preB_size hb
    clear hb
    go_enter Tryz.func27, Tryz.ntmps27
    go_wp2_with (go_at_call 50; refine (prefix_lite _ _ true HB.out _).mono ?_; rintro e w' ⟨rfl, rfl⟩)
    go_ret
    exact ⟨by rw [HC.out]; rfl, rfl⟩
theorem trim_any (s p : ByteArray) (w : World) : Calls Tryz.prog 10 #[.string s, .string p] w fun x w' => x = .returned (.string (cutB s p)) ∧ w' = w := by
  obtain ⟨c, hc⟩ : ∃ c, cutB s p = c := ⟨_, rfl⟩
  have HC : Hid (cutB s p = c) := hc
  rw [hc]
  clear hc
  go_enter Tryz.func10, Tryz.ntmps10
  go_wp2_with (go_at_call 27; refine (trimL_any _ _ _).mono ?_; rintro e w' ⟨rfl, rfl⟩; rw [HC.out])
  go_ret
  exact ⟨rfl, rfl⟩
theorem cutL_any (s p : ByteArray) (w : World) : Calls Tryz.prog 70 #[.string s, .string p] w fun x w' => x = .returned (.tuple #[.string (cutB s p), .bool (preB s p)]) ∧ w' = w := by
  obtain ⟨b, hb⟩ : ∃ b, preB s p = b := ⟨_, rfl⟩
  have HB : Hid (p.data.toList.isPrefixOf s.data.toList = b) := hb
  cases b
  · have HC : Hid (cutB s p = s ∧ preB s p = false) := ⟨by rw [cutB, hb]; rfl, hb⟩
    clear hb
    go_enter Tryz.func70, Tryz.ntmps70
    go_wp2_with (go_at_call 50; refine (prefix_lite _ _ false HB.out _).mono ?_; rintro e w' ⟨rfl, rfl⟩)
    go_ret2
    exact ⟨by rw [HC.out.1, HC.out.2]; rfl, rfl⟩
  · have HC : Hid (cutB s p = s.extract p.size s.size ∧ preB s p = true) := ⟨by rw [cutB, hb]; rfl, hb⟩
    have h1 : p.size ≤ s.size := preB_size hb
    clear hb
    go_enter Tryz.func70, Tryz.ntmps70
    go_wp2_with (go_at_call 50; refine (prefix_lite _ _ true HB.out _).mono ?_; rintro e w' ⟨rfl, rfl⟩)
    go_ret2
    exact ⟨by rw [HC.out.1, HC.out.2]; rfl, rfl⟩
theorem cut_any (s p : ByteArray) (w : World) : Calls Tryz.prog 43 #[.string s, .string p] w fun x w' => x = .returned (.tuple #[.string (cutB s p), .bool (preB s p)]) ∧ w' = w := by
  obtain ⟨c, hc⟩ : ∃ c, cutB s p = c := ⟨_, rfl⟩
  obtain ⟨b, hb⟩ : ∃ b, preB s p = b := ⟨_, rfl⟩
  have HC : Hid (cutB s p = c ∧ preB s p = b) := ⟨hc, hb⟩
  rw [hc, hb]
  clear hc hb
  go_enter Tryz.func43, Tryz.ntmps43
  go_wp2_with (go_at_call 70; refine (cutL_any _ _ _).mono ?_; rintro e w' ⟨rfl, rfl⟩; rw [HC.out.1, HC.out.2])
  go_ret2
  exact ⟨rfl, rfl⟩
end Go.Proofs.YtmabfbffpedfnaaGreatDoor
namespace Go.Proofs.YtmabfbffpedfnaaGreatDoor
open Go.RowKit

structure Cl where
  nm : ByteArray
  kd : Int
  mu : Bool
  wo : Bool
/-- a table's columns and indexes in memory -/
structure TabW (bC bI : Nat) (C : List Cl) (I : List ByteArray) (w : World) : Prop where
  kc : ∀ j (h : j < C.length), w.cell? ⟨bC, j * 4, none⟩ = some (.string C[j].nm) ∧ w.cell? ⟨bC, j * 4 + 1, none⟩ = some (.int .i64 C[j].kd) ∧ w.cell? ⟨bC, j * 4 + 2, none⟩ = some (.bool C[j].mu) ∧ w.cell? ⟨bC, j * 4 + 3, none⟩ = some (.bool C[j].wo)
  ki : ∀ j (h : j < I.length), w.cell? ⟨bI, j, none⟩ = some (.string I[j])
  lc : bC < w.heap.size
  li : bI < w.heap.size
  sc : C.length ≤ 100
  si : I.length ≤ 100
theorem TabW.below {bC bI : Nat} {C : List Cl} {I : List ByteArray} {w w' : World} (h : TabW bC bI C I w) (hb : Below w.heap.size w w') : TabW bC bI C I w' := by
  have e1 : ∀ o, w'.cell? ⟨bC, o, none⟩ = w.cell? ⟨bC, o, none⟩ := fun o => hb.cell (p := ⟨bC, o, none⟩) h.lc
  have e2 : ∀ o, w'.cell? ⟨bI, o, none⟩ = w.cell? ⟨bI, o, none⟩ := fun o => hb.cell (p := ⟨bI, o, none⟩) h.li
  exact ⟨fun j hj => by rw [e1, e1, e1, e1]; exact h.kc j hj, fun j hj => by rw [e2]; exact h.ki j hj, Nat.lt_of_lt_of_le h.lc hb.size, Nat.lt_of_lt_of_le h.li hb.size, h.sc, h.si⟩
def tabV (bC bI : Nat) (C : List Cl) (I : List ByteArray) : Value := .agg #[.string ⟨#[116]⟩, .slice (some ⟨bC, 0, none⟩) C.length C.length, .slice (some ⟨bI, 0, none⟩) I.length I.length]
def entV (bC bI : Nat) (C : List Cl) (I : List ByteArray) : Value := .agg #[.int .i64 1, .int .i64 1, .string ⟨#[116]⟩, .slice (some ⟨bC, 0, none⟩) C.length C.length, .slice (some ⟨bI, 0, none⟩) I.length I.length]
def entC (bC bI : Nat) (C : List Cl) (I : List ByteArray) : Array Value := #[.int .i64 1, .int .i64 1, .string ⟨#[116]⟩, .slice (some ⟨bC, 0, none⟩) C.length C.length, .slice (some ⟨bI, 0, none⟩) I.length I.length]
def placeD (nm : ByteArray) : List Cl → Nat → Int
  | [], _ => -1
  | c :: L, k => if (c.nm.toList == nm.toList) then (k : Int) else placeD nm L (k + 1)
def placeF (C : List Cl) (nm : ByteArray) : Int := placeD nm C 0
theorem placeD_step (nm : ByteArray) (C : List Cl) (k : Nat) (h : k < C.length) : placeD nm (C.drop k) k = if (C[k].nm.toList == nm.toList) then (k : Int) else placeD nm (C.drop (k + 1)) (k + 1) := by
  rw [List.drop_eq_getElem_cons h, placeD]
theorem place1_any (c : Cl) (nm : ByteArray) (bn : Nat) (w : World) (hn : w.cell? ⟨bn, 0, none⟩ = some (.string nm)) (hl : bn < w.heap.size) : Calls Tryz.prog 49 #[.agg #[.string c.nm, .int .i64 c.kd, .bool c.mu, .bool c.wo], .pointer (some ⟨bn, 0, none⟩)] w fun e w' => e = .returned (.bool (c.nm.toList == nm.toList)) ∧ Below w.heap.size w w' := by
  obtain ⟨W, hW⟩ : ∃ W, w.alloc (.cells #[.string c.nm, .int .i64 c.kd, .bool c.mu, .bool c.wo] 29) = W := ⟨_, rfl⟩
  have hbW : Below w.heap.size w W := by rw [← hW]; exact (Below.refl _ _).alloc (Nat.le_refl _) _
  have hk : Blk w.heap.size #[.string c.nm, .int .i64 c.kd, .bool c.mu, .bool c.wo] 29 W := by rw [← hW]; exact Blk.new _ _ _
  have c0 : W.cell? ⟨w.heap.size, 0, none⟩ = some (.string c.nm) := by rw [hk.cell 0]; rfl
  have n0 : W.cell? ⟨bn, 0, none⟩ = some (.string nm) := (hbW.cell (p := ⟨bn, 0, none⟩) hl).trans hn
  have HB : Hid (Below w.heap.size w W) := hbW
  obtain ⟨q, hq⟩ : ∃ q, (c.nm.toList == nm.toList) = q := ⟨_, rfl⟩
  have HQ : Hid ((c.nm.toList == nm.toList) = q) := hq
  rw [hq]
  clear hbW hk hn
  go_enter Tryz.func49, Tryz.ntmps49
  go_wp2
  go_ret
  exact ⟨rfl, HB.out⟩
set_option maxHeartbeats 2000000 in
theorem indexF_any (bC bI : Nat) (C : List Cl) (I : List ByteArray) (nm : ByteArray) (bn : Nat) (w : World) (h : TabW bC bI C I w) (hn : w.cell? ⟨bn, 0, none⟩ = some (.string nm)) (hl : bn < w.heap.size) : Calls Tryz.prog 48 #[.slice (some ⟨bC, 0, none⟩) C.length C.length, .func (.func 49) #[] #[.pointer (some ⟨bn, 0, none⟩)]] w fun e w' => e = .returned (.int .i64 (placeF C nm)) ∧ Below w.heap.size w w' := by
  have H : Hid (TabW bC bI C I w ∧ w.cell? ⟨bn, 0, none⟩ = some (.string nm) ∧ bn < w.heap.size) := ⟨h, hn, hl⟩
  have hsc := h.sc
  obtain ⟨R, hR⟩ : ∃ R, placeF C nm = R := ⟨_, rfl⟩
  have HR : Hid (placeF C nm = R) := hR
  rw [hR]
  clear h hn hl hR
  go_enter Tryz.func48, Tryz.ntmps48
  go_wp2
  go_loopw [8] (fun i wr => ∃ k : Nat, k ≤ C.length ∧ i = .int .i64 k ∧ Hid (placeD nm (C.drop k) k = R) ∧ Hid (Below w.heap.size w wr)) (fun i _ => C.length - (intOf i).toNat)
  case atStart => exact ⟨0, Nat.zero_le _, rfl, HR.out, Below.refl _ _⟩
  case round =>
    obtain ⟨k, hk, rfl, hd, hb⟩ := hrel
    by_cases hlt : k < C.length
    · have i1 : (k : Int) < (C.length : Int) := by omega
      have hT := (H.out.1.below hb.out).kc k hlt
      have hn : wr.cell? ⟨bn, 0, none⟩ = some (.string nm) := (hb.out.cell (p := ⟨bn, 0, none⟩) H.out.2.2).trans H.out.2.1
      have HL : Hid (wr.cell? ⟨bn, 0, none⟩ = some (.string nm) ∧ bn < wr.heap.size) := ⟨hn, Nat.lt_of_lt_of_le H.out.2.2 hb.out.size⟩
      have HS : Hid (R = if (C[k].nm.toList == nm.toList) then (k : Int) else placeD nm (C.drop (k + 1)) (k + 1)) := by show _ = _; rw [← hd.out, placeD_step nm C k hlt]
      obtain ⟨x, hx⟩ : ∃ x, C[k] = x := ⟨_, rfl⟩
      rw [hx] at hT
      have HX : Hid (C[k] = x) := hx
      obtain ⟨c0, c1, c2, c3⟩ := hT
      clear hn hx hd
      go_wp2_with fail
      obtain ⟨q, hq⟩ : ∃ q, (x.nm.toList == nm.toList) = q := ⟨_, rfl⟩
      have h8 := place1_any x nm bn wr HL.out.1 HL.out.2
      rw [hq] at h8
      refine h8.mono ?_
      clear h8
      rintro _ w1 ⟨rfl, hb1⟩
      have HB1 : Hid (Below w.heap.size w w1) := hb.out.trans (hb1.mono hb.out.size)
      have HS2 : Hid (R = if q = true then (k : Int) else placeD nm (C.drop (k + 1)) (k + 1)) := by show _ = _; rw [HS.out, HX.out, hq]
      clear hb hb1 hq HS c0 c1 c2 c3
      cases q
      · go_wp2
        go_roundw
        case rel => exact ⟨k + 1, by omega, by go_num, HS2.out.symm, HB1⟩
        case measure => simp [intOf]; omega
      · go_wp2
        go_ret
        exact ⟨ret_int HS2.out.symm, HB1.out⟩
    · obtain rfl : k = C.length := by omega
      have HN : Hid (R = -1) := by show _ = _; rw [← hd.out, List.drop_length]; rfl
      clear hd
      go_wp2
      go_ret
      exact ⟨ret_int HN.out.symm, hb.out⟩
theorem place_any (bC bI : Nat) (C : List Cl) (I : List ByteArray) (nm : ByteArray) (w : World) (h : TabW bC bI C I w) : Calls Tryz.prog 26 #[.slice (some ⟨bC, 0, none⟩) C.length C.length, .string nm] w fun e w' => e = .returned (.int .i64 (placeF C nm)) ∧ Below w.heap.size w w' := by
  obtain ⟨W, hW⟩ : ∃ W, w.alloc (.cells #[.string nm] 9) = W := ⟨_, rfl⟩
  have hbW : Below w.heap.size w W := by rw [← hW]; exact (Below.refl _ _).alloc (Nat.le_refl _) _
  have hk : Blk w.heap.size #[.string nm] 9 W := by rw [← hW]; exact Blk.new _ _ _
  have H : Hid (TabW bC bI C I W ∧ W.cell? ⟨w.heap.size, 0, none⟩ = some (.string nm) ∧ w.heap.size < W.heap.size ∧ Below w.heap.size w W) := ⟨h.below hbW, by rw [hk.cell 0]; rfl, (Array.getElem?_eq_some_iff.1 hk).1, hbW⟩
  clear hbW hk h
  go_enter Tryz.func26, Tryz.ntmps26
  go_wp2_with fail
  refine (indexF_any bC bI C I nm _ W H.out.1 H.out.2.1 H.out.2.2.1).mono ?_
  rintro _ w1 ⟨rfl, hb⟩
  have HB : Hid (Below w.heap.size w w1) := H.out.2.2.2.trans (hb.mono H.out.2.2.2.size)
  clear hb
  go_wp2
  go_ret
  exact ⟨rfl, HB.out⟩
theorem ecolumn_any (bC bI : Nat) (C : List Cl) (I : List ByteArray) (nm : ByteArray) (w : World) (h : TabW bC bI C I w) : Calls Tryz.prog 9 #[entV bC bI C I, .string nm] w fun e w' => e = .returned (.int .i64 (placeF C nm)) ∧ Below w.heap.size w w' := by
  obtain ⟨W, hW⟩ : ∃ W, w.alloc (.cells #[.int .i64 1, .int .i64 1, .string ⟨#[116]⟩, .slice (some ⟨bC, 0, none⟩) C.length C.length, .slice (some ⟨bI, 0, none⟩) I.length I.length] 35) = W := ⟨_, rfl⟩
  have hbW : Below w.heap.size w W := by rw [← hW]; exact (Below.refl _ _).alloc (Nat.le_refl _) _
  have hk : Blk w.heap.size (entC bC bI C I) 35 W := by rw [← hW]; exact Blk.new _ _ _
  have c3 : W.cell? ⟨w.heap.size, 3, none⟩ = some (.slice (some ⟨bC, 0, none⟩) C.length C.length) := by rw [hk.cell 3]; rfl
  have H : Hid (TabW bC bI C I W ∧ Below w.heap.size w W) := ⟨h.below hbW, hbW⟩
  clear hbW hk h
  unfold entV
  go_enter Tryz.func9, Tryz.ntmps9
  go_wp2_with fail
  refine (place_any bC bI C I nm W H.out.1).mono ?_
  rintro _ w1 ⟨rfl, hb⟩
  have HB : Hid (Below w.heap.size w w1) := H.out.2.trans (hb.mono H.out.2.size)
  clear hb
  go_wp2
  go_ret
  exact ⟨rfl, HB.out⟩
end Go.Proofs.YtmabfbffpedfnaaGreatDoor
namespace Go.Proofs.YtmabfbffpedfnaaGreatDoor
open Go.RowKit

theorem Blk.ec {be bC bI : Nat} {C : List Cl} {I : List ByteArray} {w : World} (h : Blk be (entC bC bI C I) 35 w) : w.cell? ⟨be, 0, none⟩ = some (.int .i64 1) ∧ w.cell? ⟨be, 1, none⟩ = some (.int .i64 1) ∧ w.cell? ⟨be, 2, none⟩ = some (.string ⟨#[116]⟩) ∧ w.cell? ⟨be, 3, none⟩ = some (.slice (some ⟨bC, 0, none⟩) C.length C.length) ∧ w.cell? ⟨be, 4, none⟩ = some (.slice (some ⟨bI, 0, none⟩) I.length I.length) ∧ ∀ i, w.frozen? ⟨be, i, none⟩ = false :=
  ⟨by rw [h.cell 0]; rfl, by rw [h.cell 1]; rfl, by rw [h.cell 2]; rfl, by rw [h.cell 3]; rfl, by rw [h.cell 4]; rfl, fun i => h.free i⟩
/-- where a column stands that may be named with its table -/
def ownN (C : List Cl) (nm : ByteArray) : Int := if preB nm ⟨#[116, 46]⟩ = true ∧ 0 ≤ placeF C (cutB nm ⟨#[116, 46]⟩) then placeF C (cutB nm ⟨#[116, 46]⟩) else placeF C nm
def ownF (C : List Cl) : Ex → Int
  | .nil => -1
  | .node c _ nm _ _ => if c = 2 then ownN C nm else -1
theorem columnsC_any (bC bI : Nat) (C : List Cl) (I : List ByteArray) (w : World) : Calls Tryz.prog 20 #[entV bC bI C I] w fun e w' => e = .returned (.func (.func 42) #[] #[.pointer (some ⟨w.heap.size, 0, none⟩)]) ∧ Blk w.heap.size (entC bC bI C I) 35 w' ∧ Below w.heap.size w w' := by
  obtain ⟨W, hW⟩ : ∃ W, w.alloc (.cells #[.int .i64 1, .int .i64 1, .string ⟨#[116]⟩, .slice (some ⟨bC, 0, none⟩) C.length C.length, .slice (some ⟨bI, 0, none⟩) I.length I.length] 35) = W := ⟨_, rfl⟩
  have H : Hid (Blk w.heap.size (entC bC bI C I) 35 W ∧ Below w.heap.size w W) := ⟨by rw [← hW]; exact Blk.new _ _ _, by rw [← hW]; exact (Below.refl _ _).alloc (Nat.le_refl _) _⟩
  have hmf : ∀ (fn : Fn) (first cap : Array Value) (w : World), (Instr.makeFunc fn first cap).run Tryz.prog w = .ok (.func fn first cap) w := fun _ _ _ _ => rfl
  unfold entV
  go_enter Tryz.func20, Tryz.ntmps20
  go_wp2
  go_ret
  exact ⟨rfl, H.out.1, H.out.2⟩
theorem ownC_no (e : Ex) (p : Option Addr) (be : Nat) (w : World) (h : ExAt w p e) (hc : e.code ≠ 2) : Calls Tryz.prog 42 #[.pointer p, .pointer (some ⟨be, 0, none⟩)] w fun x w' => x = .returned (.int .i64 (-1)) ∧ w' = w := by
  cases e with
  | nil =>
    obtain rfl : p = none := h
    go_enter Tryz.func42, Tryz.ntmps42
    go_wp2
    go_ret
    exact ⟨rfl, rfl⟩
  | node c v nm l r =>
    obtain ⟨B, pl, pr, rfl, _, ⟨c0, _, _, _, _, _, _⟩, _, _⟩ := h
    have e2 : (c != 2) = true := by have h0 : c ≠ 2 := hc; simpa using h0
    clear hc
    go_enter Tryz.func42, Tryz.ntmps42
    go_wp2
    go_ret
    exact ⟨rfl, rfl⟩
set_option maxRecDepth 100000 in
set_option maxHeartbeats 8000000 in
theorem ownC_yes (bC bI : Nat) (C : List Cl) (I : List ByteArray) (v : Vl) (nm : ByteArray) (l r : Ex) (p : Option Addr) (be : Nat) (w : World) (hX : ExAt w p (.node 2 v nm l r)) (hk : Blk be (entC bC bI C I) 35 w) (hT : TabW bC bI C I w) : Calls Tryz.prog 42 #[.pointer p, .pointer (some ⟨be, 0, none⟩)] w fun x w' => x = .returned (.int .i64 (ownN C nm)) ∧ Below w.heap.size w w' := by
  have d : Below w.heap.size w w.drew := (Below.refl _ _).drew
  obtain ⟨B, pl, pr, rfl, hlt, ⟨c0, c1, c2, c3, c4, c5, c6⟩, hl, hr⟩ := hX
  have G0 : Hid (Blk be (entC bC bI C I) 35 w.drew ∧ TabW bC bI C I w.drew ∧ ExAt w.drew (some ⟨B, 0, none⟩) (.node 2 v nm l r) ∧ Below w.heap.size w w.drew) := ⟨hk.below d, hT.below d, ExAt.below d _ ⟨B, pl, pr, rfl, hlt, ⟨c0, c1, c2, c3, c4, c5, c6⟩, hl, hr⟩, d⟩
  obtain ⟨e0, e1, e2, e3, e4, ef⟩ := (hk.below d).ec
  have d4 : w.drew.cell? ⟨B, 4, none⟩ = some (.string nm) := c4
  have n2 : (((2 : Int) != 2)) = false := by decide
  have eA := str_add ⟨#[116]⟩ ⟨#[46]⟩ (by decide)
  rw [show (⟨#[116]⟩ ++ ⟨#[46]⟩ : ByteArray) = ⟨#[116, 46]⟩ from rfl] at eA
  obtain ⟨b, hb⟩ : ∃ b, preB nm ⟨#[116, 46]⟩ = b := ⟨_, rfl⟩
  obtain ⟨nm2, hn2⟩ : ∃ n, cutB nm ⟨#[116, 46]⟩ = n := ⟨_, rfl⟩
  obtain ⟨i1, hi1⟩ : ∃ i, placeF C nm2 = i := ⟨_, rfl⟩
  obtain ⟨i2, hi2⟩ : ∃ i, placeF C nm = i := ⟨_, rfl⟩
  have HI : Hid (placeF C nm2 = i1 ∧ placeF C nm = i2) := ⟨hi1, hi2⟩
  have HN : Hid (preB nm ⟨#[116, 46]⟩ = b ∧ cutB nm ⟨#[116, 46]⟩ = nm2) := ⟨hb, hn2⟩
  have HO : Hid (ownN C nm = if b = true ∧ 0 ≤ i1 then i1 else i2) := by show _ = _; rw [ownN, hb, hn2, hi1, hi2]
  clear hb hn2 hi1 hi2 hk hT d hlt hl hr c1 c2 c3 c5 c6
  cases b
  · have HR : Hid (ownN C nm = i2) := by show _ = _; rw [HO.out, if_neg (by intro h; cases h.1)]
    go_enter Tryz.func42, Tryz.ntmps42
    go_upto_region 3 with fail
    go_region_law (go_wp2_with (go_at_call 43; refine Calls.mono (cut_any nm ⟨#[116, 46]⟩ _) ?_; rintro _ w3 ⟨rfl, hw3⟩; rw [HN.out.1, HN.out.2]; have G1 : Hid (Blk be (entC bC bI C I) 35 w3 ∧ TabW bC bI C I w3 ∧ ExAt w3 (some ⟨B, 0, none⟩) (.node 2 v nm l r) ∧ Below w.heap.size w w3) := (by rw [hw3]; exact G0.out); clear hw3))
    all_goals
      go_upto_region 8 with fail
      have d : Below w3.heap.size w3 w3.drew := (Below.refl _ _).drew
      have GD : Hid (Blk be (entC bC bI C I) 35 w3.drew ∧ TabW bC bI C I w3.drew ∧ ExAt w3.drew (some ⟨B, 0, none⟩) (.node 2 v nm l r) ∧ Below w.heap.size w w3.drew) := ⟨G1.out.1.below d, G1.out.2.1.below d, G1.out.2.2.1.below d, G1.out.2.2.2.trans (d.mono G1.out.2.2.2.size)⟩
      clear d
      obtain ⟨k0, k1, k2, k3, k4, kf⟩ := GD.out.1.ec
      obtain ⟨B', pl', pr', eB, _, ⟨_, _, _, _, j4, _, _⟩, _, _⟩ := GD.out.2.2.1
      obtain rfl : B = B' := by injection eB with eB; injection eB
      go_region_law (go_wp2_with (go_at_call 9; have h8 := ecolumn_any bC bI C I nm _ GD.out.2.1; rw [HI.out.2] at h8; refine Calls.mono h8 ?_; clear h8; rintro _ w9 ⟨rfl, hb⟩; have G9 : Hid (Below w.heap.size w w9) := GD.out.2.2.2.trans (hb.mono GD.out.2.2.2.size); clear hb))
      all_goals
        go_wp2
        go_ret
        exact ⟨ret_int (by rw [HR.out]), G9.out⟩
  · by_cases hp : 0 ≤ i1
    · have HR : Hid (ownN C nm = i1) := by show _ = _; rw [HO.out, if_pos ⟨rfl, hp⟩]
      have dp : decide (0 ≤ i1) = true := decide_eq_true hp
      go_enter Tryz.func42, Tryz.ntmps42
      go_upto_region 3 with fail
      go_region_law (go_wp2_with (go_at_call 43; refine Calls.mono (cut_any nm ⟨#[116, 46]⟩ _) ?_; rintro _ w3 ⟨rfl, hw3⟩; rw [HN.out.1, HN.out.2]; have G1 : Hid (Blk be (entC bC bI C I) 35 w3 ∧ TabW bC bI C I w3 ∧ ExAt w3 (some ⟨B, 0, none⟩) (.node 2 v nm l r) ∧ Below w.heap.size w w3) := (by rw [hw3]; exact G0.out); clear hw3))
      all_goals
        obtain ⟨k0, k1, k2, k3, k4, kf⟩ := G1.out.1.ec
        go_wp2_with fail
        have h8 := ecolumn_any bC bI C I nm2 w3 G1.out.2.1
        rw [HI.out.1] at h8
        refine h8.mono ?_
        clear h8
        rintro _ w4 ⟨rfl, hb⟩
        have G2 : Hid (Below w.heap.size w w4) := G1.out.2.2.2.trans (hb.mono G1.out.2.2.2.size)
        clear hb
        go_wp2
        go_ret
        exact ⟨ret_int (by rw [HR.out]), G2.out⟩
    · have HR : Hid (ownN C nm = i2) := by show _ = _; rw [HO.out, if_neg (fun h => hp h.2)]
      have dp : decide (0 ≤ i1) = false := decide_eq_false hp
      go_enter Tryz.func42, Tryz.ntmps42
      go_upto_region 3 with fail
      go_region_law (go_wp2_with (go_at_call 43; refine Calls.mono (cut_any nm ⟨#[116, 46]⟩ _) ?_; rintro _ w3 ⟨rfl, hw3⟩; rw [HN.out.1, HN.out.2]; have G1 : Hid (Blk be (entC bC bI C I) 35 w3 ∧ TabW bC bI C I w3 ∧ ExAt w3 (some ⟨B, 0, none⟩) (.node 2 v nm l r) ∧ Below w.heap.size w w3) := (by rw [hw3]; exact G0.out); clear hw3))
      all_goals
        obtain ⟨k0, k1, k2, k3, k4, kf⟩ := G1.out.1.ec
        go_wp2_with fail
        have h8 := ecolumn_any bC bI C I nm2 w3 G1.out.2.1
        rw [HI.out.1] at h8
        refine h8.mono ?_
        clear h8 k0 k1 k2 k3 k4 kf
        rintro _ w4 ⟨rfl, hb⟩
        have G2 : Hid (Blk be (entC bC bI C I) 35 w4 ∧ TabW bC bI C I w4 ∧ ExAt w4 (some ⟨B, 0, none⟩) (.node 2 v nm l r) ∧ Below w.heap.size w w4) := ⟨G1.out.1.below hb, G1.out.2.1.below hb, G1.out.2.2.1.below hb, G1.out.2.2.2.trans (hb.mono G1.out.2.2.2.size)⟩
        clear hb
        go_upto_region 8 with fail
        have d : Below w4.heap.size w4 w4.drew := (Below.refl _ _).drew
        have GD : Hid (Blk be (entC bC bI C I) 35 w4.drew ∧ TabW bC bI C I w4.drew ∧ ExAt w4.drew (some ⟨B, 0, none⟩) (.node 2 v nm l r) ∧ Below w.heap.size w w4.drew) := ⟨G2.out.1.below d, G2.out.2.1.below d, G2.out.2.2.1.below d, G2.out.2.2.2.trans (d.mono G2.out.2.2.2.size)⟩
        clear d
        obtain ⟨k0, k1, k2, k3, k4, kf⟩ := GD.out.1.ec
        obtain ⟨B', pl', pr', eB, _, ⟨_, _, _, _, j4, _, _⟩, _, _⟩ := GD.out.2.2.1
        obtain rfl : B = B' := by injection eB with eB; injection eB
        go_region_law (go_wp2_with (go_at_call 9; have h8 := ecolumn_any bC bI C I nm _ GD.out.2.1; rw [HI.out.2] at h8; refine Calls.mono h8 ?_; clear h8; rintro _ w9 ⟨rfl, hb⟩; have G9 : Hid (Below w.heap.size w w9) := GD.out.2.2.2.trans (hb.mono GD.out.2.2.2.size); clear hb))
        all_goals
          go_wp2
          go_ret
          exact ⟨ret_int (by rw [HR.out]), G9.out⟩
theorem ownC_any (bC bI : Nat) (C : List Cl) (I : List ByteArray) (e : Ex) (p : Option Addr) (be : Nat) (w : World) (hX : ExAt w p e) (hk : Blk be (entC bC bI C I) 35 w) (hT : TabW bC bI C I w) : Calls Tryz.prog 42 #[.pointer p, .pointer (some ⟨be, 0, none⟩)] w fun x w' => x = .returned (.int .i64 (ownF C e)) ∧ Below w.heap.size w w' := by
  by_cases hc : e.code = 2
  · cases e with
    | nil => cases hc
    | node c v nm l r =>
      obtain rfl : c = 2 := hc
      exact ownC_yes bC bI C I v nm l r p be w hX hk hT
  · have h1 : ownF C e = -1 := by
      cases e with
      | nil => rfl
      | node c v nm l r => exact if_neg hc
    rw [h1]
    exact (ownC_no e p be w hX hc).mono fun x w' ⟨h2, h3⟩ => ⟨h2, by rw [h3]; exact Below.refl _ _⟩
end Go.Proofs.YtmabfbffpedfnaaGreatDoor
namespace Go.Proofs.YtmabfbffpedfnaaGreatDoor
open Go.RowKit

/-- the law's table -/
def C3 : List Cl := [⟨⟨#[97]⟩, 1, false, false⟩, ⟨⟨#[98]⟩, 2, false, true⟩, ⟨⟨#[99]⟩, 1, false, false⟩]
def I3 : List ByteArray := [⟨#[97]⟩, ⟨#[98]⟩, ⟨#[99]⟩]
def pickV (a b c : Vl) (i : Int) : Vl := if i = 0 then a else if i = 1 then b else if i = 2 then c else .none
def colV (a b c : Vl) (nm : ByteArray) : Vl := pickV a b c (placeF C3 (cutB nm ⟨#[116, 46]⟩))
def colR (a b c : Vl) (nm : ByteArray) : Except Int Vl := .ok (colV a b c nm)
theorem place3 (nm : ByteArray) : placeF C3 nm = 0 ∨ placeF C3 nm = 1 ∨ placeF C3 nm = 2 ∨ placeF C3 nm = -1 := by
  unfold placeF C3
  simp only [placeD]
  split
  · exact Or.inl rfl
  split
  · exact Or.inr (Or.inl rfl)
  split
  · exact Or.inr (Or.inr (Or.inl rfl))
  · exact Or.inr (Or.inr (Or.inr rfl))
structure EnvW (be ba bb bc bf : Nat) (a b c : Vl) (w : World) : Prop where
  en : ∃ bC bI, Blk be (entC bC bI C3 I3) 35 w ∧ TabW bC bI C3 I3 w
  ka : Blk ba a.cells 23 w
  kb : Blk bb b.cells 23 w
  kc : Blk bc c.cells 23 w
  kf : w.cell? ⟨bf, 0, none⟩ = some (.func (.func 8) #[] #[.pointer (some ⟨be, 0, none⟩), .pointer (some ⟨ba, 0, none⟩), .pointer (some ⟨bb, 0, none⟩), .pointer (some ⟨bc, 0, none⟩)])
  lf : bf < w.heap.size
  ask : w.rangeAt 0 0 askCells
  lo : 12 ≤ w.heap.size
theorem EnvW.below {be ba bb bc bf : Nat} {a b c : Vl} {w w' : World} (h : EnvW be ba bb bc bf a b c w) (hb : Below w.heap.size w w') : EnvW be ba bb bc bf a b c w' :=
  ⟨(by obtain ⟨bC, bI, h1, h2⟩ := h.en; exact ⟨bC, bI, h1.below hb, h2.below hb⟩), h.ka.below hb, h.kb.below hb, h.kc.below hb, (hb.cell (p := ⟨bf, 0, none⟩) h.lf).trans h.kf, Nat.lt_of_lt_of_le h.lf hb.size, range_keep h.ask (fun q => World.cell?_of_block (w := w) (a := ⟨0, q, none⟩) (hb.block 0 (by have := h.lo; omega))), Nat.le_trans h.lo hb.size⟩
set_option maxRecDepth 100000 in
set_option maxHeartbeats 8000000 in
theorem ecol_any {be ba bb bc bf : Nat} {a b c : Vl} (nm : ByteArray) (w : World) (h : EnvW be ba bb bc bf a b c w) : Calls Tryz.prog 8 #[.string nm, .pointer (some ⟨be, 0, none⟩), .pointer (some ⟨ba, 0, none⟩), .pointer (some ⟨bb, 0, none⟩), .pointer (some ⟨bc, 0, none⟩)] w fun e w' => e = .returned (tupR (colR a b c nm)) ∧ Below w.heap.size w w' := by
  obtain ⟨W, hW⟩ : ∃ W, w.alloc (.cells #[.int .i64 0, .int .i64 0, .string ⟨#[]⟩] 23) = W := ⟨_, rfl⟩
  have hbW : Below w.heap.size w W := by rw [← hW]; exact (Below.refl _ _).alloc (Nat.le_refl _) _
  have hk0W : Blk (w.heap.size) Vl.none.cells 23 W := by
      have hq := Blk.new w Vl.none.cells 23
      rw [← hW]
      exact hq
  have d : Below W.heap.size W W.drew := (Below.refl _ _).drew
  have G0 : Hid (Blk (w.heap.size) Vl.none.cells 23 W.drew ∧ Below w.heap.size w W.drew ∧ EnvW be ba bb bc bf a b c W.drew) := ⟨hk0W.below d, hbW.trans (d.mono hbW.size), (h.below hbW).below d⟩
  clear hbW hk0W h d
  obtain ⟨bC, bI, hke, hT⟩ := G0.out.2.2.en
  have HT : Hid (TabW bC bI C3 I3 W.drew) := hT
  obtain ⟨e0, e1, e2, e3, e4, ef⟩ := hke.ec
  clear hke hT
  obtain ⟨nm2, hn2⟩ : ∃ n, cutB nm ⟨#[116, 46]⟩ = n := ⟨_, rfl⟩
  have HN2 : Hid (cutB nm ⟨#[116, 46]⟩ = nm2) := hn2
  obtain ⟨i, hi⟩ : ∃ i, placeF C3 nm2 = i := ⟨_, rfl⟩
  have HI : Hid (placeF C3 nm2 = i) := hi
  have hi4 := place3 nm2
  rw [hi] at hi4
  have HC : Hid (colR a b c nm = .ok (pickV a b c i)) := by show _ = _; rw [colR, colV, hn2, hi]
  clear hn2 hi
  rcases hi4 with rfl | rfl | rfl | rfl
  · go_enter Tryz.func8, Tryz.ntmps8
    go_upto_region 1 with fail
    go_region_law (go_wp2_with (first | (go_at_call 10; refine Calls.mono (trim_any nm ⟨#[116, 46]⟩ _) ?_; rintro _ _ ⟨rfl, rfl⟩; rw [HN2.out]) | (go_at_call 9; have h8 := ecolumn_any bC bI C3 I3 nm2 _ HT.out; rw [HI.out] at h8; refine Calls.mono h8 ?_; clear h8; rintro _ w1 ⟨rfl, hb⟩; have G1 : Hid (Blk (w.heap.size) Vl.none.cells 23 w1 ∧ Below w.heap.size w w1 ∧ EnvW be ba bb bc bf a b c w1) := ⟨G0.out.1.below hb, G0.out.2.1.trans (hb.mono G0.out.2.1.size), G0.out.2.2.below hb⟩; obtain ⟨z0, z1, z2, zf⟩ := G1.out.1.vc; obtain ⟨a0, a1, a2, af⟩ := G1.out.2.2.ka.vc; obtain ⟨b0, b1, b2, bf0⟩ := G1.out.2.2.kb.vc; obtain ⟨c0, c1, c2, cf⟩ := G1.out.2.2.kc.vc; clear hb)))
    all_goals
      go_wp2
      refine bodyPost_ret (v := .tuple #[vv a, .nilIface]) (results_ct Tryz.results8 _ _ ⟨w.heap.size, 0, none⟩ rfl (load39 (put39_blk a G1.out.1))) rfl ?_
      exact ⟨by rw [HC.out]; rfl, put39_below a G1.out.2.1 (by omega)⟩
  · go_enter Tryz.func8, Tryz.ntmps8
    go_upto_region 1 with fail
    go_region_law (go_wp2_with (first | (go_at_call 10; refine Calls.mono (trim_any nm ⟨#[116, 46]⟩ _) ?_; rintro _ _ ⟨rfl, rfl⟩; rw [HN2.out]) | (go_at_call 9; have h8 := ecolumn_any bC bI C3 I3 nm2 _ HT.out; rw [HI.out] at h8; refine Calls.mono h8 ?_; clear h8; rintro _ w1 ⟨rfl, hb⟩; have G1 : Hid (Blk (w.heap.size) Vl.none.cells 23 w1 ∧ Below w.heap.size w w1 ∧ EnvW be ba bb bc bf a b c w1) := ⟨G0.out.1.below hb, G0.out.2.1.trans (hb.mono G0.out.2.1.size), G0.out.2.2.below hb⟩; obtain ⟨z0, z1, z2, zf⟩ := G1.out.1.vc; obtain ⟨a0, a1, a2, af⟩ := G1.out.2.2.ka.vc; obtain ⟨b0, b1, b2, bf0⟩ := G1.out.2.2.kb.vc; obtain ⟨c0, c1, c2, cf⟩ := G1.out.2.2.kc.vc; clear hb)))
    all_goals
      go_wp2
      refine bodyPost_ret (v := .tuple #[vv b, .nilIface]) (results_ct Tryz.results8 _ _ ⟨w.heap.size, 0, none⟩ rfl (load39 (put39_blk b G1.out.1))) rfl ?_
      exact ⟨by rw [HC.out]; rfl, put39_below b G1.out.2.1 (by omega)⟩
  · go_enter Tryz.func8, Tryz.ntmps8
    go_upto_region 1 with fail
    go_region_law (go_wp2_with (first | (go_at_call 10; refine Calls.mono (trim_any nm ⟨#[116, 46]⟩ _) ?_; rintro _ _ ⟨rfl, rfl⟩; rw [HN2.out]) | (go_at_call 9; have h8 := ecolumn_any bC bI C3 I3 nm2 _ HT.out; rw [HI.out] at h8; refine Calls.mono h8 ?_; clear h8; rintro _ w1 ⟨rfl, hb⟩; have G1 : Hid (Blk (w.heap.size) Vl.none.cells 23 w1 ∧ Below w.heap.size w w1 ∧ EnvW be ba bb bc bf a b c w1) := ⟨G0.out.1.below hb, G0.out.2.1.trans (hb.mono G0.out.2.1.size), G0.out.2.2.below hb⟩; obtain ⟨z0, z1, z2, zf⟩ := G1.out.1.vc; obtain ⟨a0, a1, a2, af⟩ := G1.out.2.2.ka.vc; obtain ⟨b0, b1, b2, bf0⟩ := G1.out.2.2.kb.vc; obtain ⟨c0, c1, c2, cf⟩ := G1.out.2.2.kc.vc; clear hb)))
    all_goals
      go_wp2
      refine bodyPost_ret (v := .tuple #[vv c, .nilIface]) (results_ct Tryz.results8 _ _ ⟨w.heap.size, 0, none⟩ rfl (load39 (put39_blk c G1.out.1))) rfl ?_
      exact ⟨by rw [HC.out]; rfl, put39_below c G1.out.2.1 (by omega)⟩
  · go_enter Tryz.func8, Tryz.ntmps8
    go_upto_region 1 with fail
    go_region_law (go_wp2_with (first | (go_at_call 10; refine Calls.mono (trim_any nm ⟨#[116, 46]⟩ _) ?_; rintro _ _ ⟨rfl, rfl⟩; rw [HN2.out]) | (go_at_call 9; have h8 := ecolumn_any bC bI C3 I3 nm2 _ HT.out; rw [HI.out] at h8; refine Calls.mono h8 ?_; clear h8; rintro _ w1 ⟨rfl, hb⟩; have G1 : Hid (Blk (w.heap.size) Vl.none.cells 23 w1 ∧ Below w.heap.size w w1 ∧ EnvW be ba bb bc bf a b c w1) := ⟨G0.out.1.below hb, G0.out.2.1.trans (hb.mono G0.out.2.1.size), G0.out.2.2.below hb⟩; obtain ⟨z0, z1, z2, zf⟩ := G1.out.1.vc; obtain ⟨a0, a1, a2, af⟩ := G1.out.2.2.ka.vc; obtain ⟨b0, b1, b2, bf0⟩ := G1.out.2.2.kb.vc; obtain ⟨c0, c1, c2, cf⟩ := G1.out.2.2.kc.vc; clear hb)))
    all_goals
      go_wp2
      refine bodyPost_ret (v := .tuple #[vv .none, .nilIface]) (results_ct Tryz.results8 _ _ ⟨w.heap.size, 0, none⟩ rfl (load39 (put39_blk .none G1.out.1))) rfl ?_
      exact ⟨by rw [HC.out]; rfl, put39_below .none G1.out.2.1 (by omega)⟩
def errOf : Except Int Vl → Value
  | .ok _ => .nilIface
  | .error n => .iface 82 (.int .i64 n)
def valOf : Except Int Vl → Vl
  | .ok v => v
  | .error _ => .none
theorem tup_eq (r : Except Int Vl) : tupR r = .tuple #[vv (valOf r), errOf r] := by cases r <;> rfl
theorem err_cases (r : Except Int Vl) : errOf r = .nilIface ∨ ∃ n, errOf r = .iface 82 (.int .i64 n) := by
  cases r with
  | ok v => exact Or.inl rfl
  | error n => exact Or.inr ⟨n, rfl⟩
set_option maxRecDepth 100000 in
set_option maxHeartbeats 4000000 in
theorem emat_any {be ba bb bc bf : Nat} {a b c : Vl} (nm tx : ByteArray) (w : World) (h : EnvW be ba bb bc bf a b c w) : Calls Tryz.prog 12 #[.string nm, .string tx, .pointer (some ⟨bf, 0, none⟩)] w fun e w' => e = .returned (.tuple #[.bool ((valOf (colR a b c nm)).t.toList == tx.toList), errOf (colR a b c nm)]) ∧ Below w.heap.size w w' := by
  have H : Hid (EnvW be ba bb bc bf a b c w) := h
  have k0 := h.kf
  obtain ⟨R, hR⟩ : ∃ R, colR a b c nm = R := ⟨_, rfl⟩
  have HR : Hid (colR a b c nm = R) := hR
  rw [hR]
  clear h hR
  go_enter Tryz.func12, Tryz.ntmps12
  go_wp2_with fail
  have h8 := ecol_any nm w H.out
  rw [HR.out, tup_eq] at h8
  refine h8.mono ?_
  clear h8
  rintro _ w1 ⟨rfl, hb⟩
  obtain ⟨rv, hrv⟩ : ∃ v, valOf R = v := ⟨_, rfl⟩
  obtain ⟨E, hE⟩ : ∃ v, errOf R = v := ⟨_, rfl⟩
  have hEc := err_cases R
  rw [hE] at hEc
  have HVE : Hid (valOf R = rv ∧ errOf R = E) := ⟨hrv, hE⟩
  rw [hrv, hE]
  obtain ⟨V, hV⟩ : ∃ V, w1.alloc (.cells #[.int .i64 rv.k, .int .i64 rv.n, .string rv.t] 23) = V := ⟨_, rfl⟩
  have hk : Blk w1.heap.size rv.cells 23 V := by rw [← hV]; exact Blk.new _ _ _
  have HB : Hid (Below w.heap.size w V) := hb.trans (by rw [← hV]; exact (Below.refl _ _).alloc hb.size _)
  obtain ⟨u0, u1, u2, uf⟩ := hk.vc
  obtain ⟨q, hq⟩ : ∃ q, (rv.t.toList == tx.toList) = q := ⟨_, rfl⟩
  have HQ : Hid ((rv.t.toList == tx.toList) = q) := hq
  clear hk hb hrv hE
  unfold vv
  rcases hEc with rfl | ⟨n, rfl⟩
  · go_wp2
    go_ret2
    exact ⟨by rw [HVE.out.1, HVE.out.2, HQ.out]; rfl, HB.out⟩
  · go_wp2
    go_ret2
    exact ⟨by rw [HVE.out.1, HVE.out.2, HQ.out]; rfl, HB.out⟩
end Go.Proofs.YtmabfbffpedfnaaGreatDoor
