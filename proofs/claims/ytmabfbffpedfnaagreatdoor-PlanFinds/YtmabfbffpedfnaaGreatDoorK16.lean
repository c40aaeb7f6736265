/- Part 16 of 30. -/
import Derived.Test.YtmabfbffpedfnaaGreatDoorK15
import Derived.Deep.RegionLaw
import Derived.Deep.AppendLies
namespace Go.Proofs.YtmabfbffpedfnaaGreatDoor
open Go.RowKit

def ToldC (A : Nat) (R : Option (Colm × List KT)) (w : World) (e : Ending) (w' : World) : Prop :=
  w.grownBy w' (some A) ∧ ((∃ x l, R = some (x, l) ∧ e = .returned (.agg #[.string x.nm, .int .i64 x.k, .bool x.mu, .bool x.wo]) ∧ RdIs A l w') ∨ (R = none ∧ Thr e))
set_option maxRecDepth 100000 in
set_option maxHeartbeats 16000000 in
theorem column_any (A : Nat) (l : List KT) (w : World) (h : RdIs A l w) : Calls Tryz.prog 102 #[.pointer (some ⟨A, 0, none⟩)] w fun e w' => ToldC A (colmF l) w e w' := by
  obtain ⟨W, hW⟩ : ∃ W, w.alloc (.cells #[.string ⟨#[]⟩, .int .i64 0, .bool false, .bool false] 29) = W := ⟨_, rfl⟩
  have hbW : Below w.heap.size w W := by rw [← hW]; exact (Below.refl _ _).alloc (Nat.le_refl _) _
  have hk0 : Blk w.heap.size #[.string ⟨#[]⟩, .int .i64 0, .bool false, .bool false] 29 W := by rw [← hW]; exact Blk.new _ _ _
  have hA := h.lt
  have HW : Hid (RdIs A l W ∧ w.grownBy W (some A) ∧ Blk w.heap.size #[.string ⟨#[]⟩, .int .i64 0, .bool false, .bool false] 29 W) := ⟨h.below hbW, grown_of_belowA hbW _, hk0⟩
  obtain ⟨R, hR⟩ : ∃ R, colmF l = R := ⟨_, rfl⟩
  have HR : Hid ((nameF l).bind (fun a => (colm1 a.2).bind fun b => (colm2 b.2).map fun c => (⟨a.1, b.1, c.1, (colm3 b.1 c.2).1⟩, (colm3 b.1 c.2).2)) = R) := hR
  unfold ToldC
  rw [hR]
  have hsz : W.heap.size = w.heap.size + 1 := by rw [← hW]; simp
  clear h hR hbW hk0
  go_enter Tryz.func102, Tryz.ntmps102
  go_wp2_with fail
  refine (name_any A l W HW.out.1).mono ?_
  rintro _ w1 ⟨hg1, ⟨nm, l1, hn1, rfl, hr1, hnm⟩ | ⟨hn1, n1, m1, rfl⟩⟩
  · obtain ⟨C, hC⟩ : ∃ C, w1.heap.size = C := ⟨_, rfl⟩
    have hCw : w.heap.size ≤ C := by have := hg1.size; omega
    have hC0 : C ≠ w.heap.size := by have := hg1.size; omega
    have hCA : C ≠ A := by omega
    obtain ⟨V, hV⟩ : ∃ V, V = w1.alloc (.cells #[.string nm, .int .i64 1, .bool false, .bool false] 29) := ⟨_, rfl⟩
    have HVe : Hid (V = w1.alloc (.cells #[.string nm, .int .i64 1, .bool false, .bool false] 29)) := hV
    have hbV : Below w1.heap.size w1 V := by rw [hV]; exact (Below.refl _ _).alloc (Nat.le_refl _) _
    have hkV : Blk C #[.string nm, .int .i64 1, .bool false, .bool false] 29 V := by rw [hV, ← hC]; exact Blk.new _ _ _
    have HV : Hid (RdIs A l1 V ∧ w.grownBy V (some A) ∧ Blk w.heap.size #[.string ⟨#[]⟩, .int .i64 0, .bool false, .bool false] 29 V ∧ Blk C #[.string nm, .int .i64 1, .bool false, .bool false] 29 V) := ⟨hr1.below hbV, (HW.out.2.1.trans hg1).trans (grown_of_belowA hbV _), (HW.out.2.2.keep (by omega) hg1).below hbV, hkV⟩
    have HR1 : Hid (R = (colm1 l1).bind fun b => (colm2 b.2).map fun c => (⟨nm, b.1, c.1, (colm3 b.1 c.2).1⟩, (colm3 b.1 c.2).2)) := by
      show _ = _
      rw [← HR.out, hn1]; rfl
    have hAC : A < C := by omega
    clear hg1 hn1 hr1 hbV hkV hW hsz hV
    obtain ⟨b1, hb1⟩ : ∃ b, isT ⟨#[105, 110, 116]⟩ l1 = b := ⟨_, rfl⟩
    have HS1 : Hid (isT ⟨#[105, 110, 116]⟩ l1 = b1) := hb1
    clear hb1
    go_wp2_with fail
    rw [← HVe.out]
    refine (has_any A l1 ⟨#[105, 110, 116]⟩ b1 HS1.out V HV.out.1).mono ?_
    rintro _ w2 ⟨rfl, hr2, hg2⟩
    have H2 : Hid (RdIs A (if b1 then l1.tail else l1) w2 ∧ w.grownBy w2 (some A) ∧ Blk w.heap.size #[.string ⟨#[]⟩, .int .i64 0, .bool false, .bool false] 29 w2 ∧ Blk C #[.string nm, .int .i64 1, .bool false, .bool false] 29 w2) := ⟨hr2, HV.out.2.1.trans hg2, HV.out.2.2.1.keep (by omega) hg2, HV.out.2.2.2.keep hCA hg2⟩
    clear hr2 hg2 HVe
    cases b1
    · go_wp2_with fail
      refine (need_any A l1 ⟨#[116, 101, 120, 116]⟩ w2 H2.out.1).mono ?_
      rintro _ w3 ⟨hg3, ⟨l3, hn3, rfl, hr3⟩ | ⟨hn3, n1, m1, rfl⟩⟩
      · have k3 := H2.out.2.2.2.keep hCA hg3
        have q1 : w3.cell? ⟨C, 1, none⟩ = some (.int .i64 1) := by rw [k3.cell 1]; rfl
        have g1 := k3.free 1
        obtain ⟨w4, hw4⟩ : ∃ w4, w3.setCell ⟨C, 1, none⟩ (.int .i64 2) = w4 := ⟨_, rfl⟩
        have H4 : Hid (RdIs A l3 w4 ∧ w.grownBy w4 (some A) ∧ Blk w.heap.size #[.string ⟨#[]⟩, .int .i64 0, .bool false, .bool false] 29 w4 ∧ Blk C #[.string nm, .int .i64 2, .bool false, .bool false] 29 w4) := by
          rw [← hw4]
          exact ⟨hr3.set (by omega) 1 _, grown_new (H2.out.2.1.trans hg3) hCw 1 _, (H2.out.2.2.1.keep (by omega) hg3).other hC0 1 _, k3.set 1 _⟩
        have HR2 : Hid (R = (colm2 l3).map fun c => (⟨nm, 2, c.1, (colm3 2 c.2).1⟩, (colm3 2 c.2).2)) := by
          show _ = _
          rw [HR1.out]; unfold colm1; rw [if_neg (by rw [HS1.out]; decide), hn3]; rfl
        clear hg3 hn3 hr3 k3
        obtain ⟨b2, hb2⟩ : ∃ b, isT ⟨#[110, 111, 116]⟩ l3 = b := ⟨_, rfl⟩
        have HS2 : Hid (isT ⟨#[110, 111, 116]⟩ l3 = b2) := hb2
        clear hb2
        go_wp2_with fail
        refine (has_any A l3 ⟨#[110, 111, 116]⟩ b2 HS2.out w4 H4.out.1).mono ?_
        rintro _ w5 ⟨rfl, hr5, hg5⟩
        have H5 : Hid (RdIs A (if b2 then l3.tail else l3) w5 ∧ w.grownBy w5 (some A) ∧ Blk w.heap.size #[.string ⟨#[]⟩, .int .i64 0, .bool false, .bool false] 29 w5 ∧ Blk C #[.string nm, .int .i64 2, .bool false, .bool false] 29 w5) := ⟨hr5, H4.out.2.1.trans hg5, H4.out.2.2.1.keep (by omega) hg5, H4.out.2.2.2.keep hCA hg5⟩
        clear hr5 hg5
        cases b2
        · have HR3 : Hid (R = some (⟨nm, 2, false, (colm3 2 l3).1⟩, (colm3 2 l3).2)) := by
            show _ = _
            rw [HR2.out]; unfold colm2; rw [if_neg (by rw [HS2.out]; decide)]; rfl
          have H6 : Hid (RdIs A l3 w5 ∧ w.grownBy w5 (some A) ∧ Blk w.heap.size #[.string ⟨#[]⟩, .int .i64 0, .bool false, .bool false] 29 w5 ∧ Blk C #[.string nm, .int .i64 2, .bool false, .bool false] 29 w5) := H5
          obtain ⟨b4, hb4⟩ : ∃ b, isT ⟨#[119, 111, 114, 100, 115]⟩ l3 = b := ⟨_, rfl⟩
          have HS4 : Hid (isT ⟨#[119, 111, 114, 100, 115]⟩ l3 = b4) := hb4
          clear hb4
          have q1 : w5.cell? ⟨C, 1, none⟩ = some (.int .i64 2) := by rw [H6.out.2.2.2.cell 1]; rfl
          go_wp2_with fail
          refine (has_any A l3 ⟨#[119, 111, 114, 100, 115]⟩ b4 HS4.out w5 H6.out.1).mono ?_
          rintro _ w9 ⟨rfl, hr9, hg9⟩
          have H9 : Hid (RdIs A (if b4 then l3.tail else l3) w9 ∧ w.grownBy w9 (some A) ∧ Blk w.heap.size #[.string ⟨#[]⟩, .int .i64 0, .bool false, .bool false] 29 w9 ∧ Blk C #[.string nm, .int .i64 2, .bool false, .bool false] 29 w9) := ⟨hr9, H6.out.2.1.trans hg9, H6.out.2.2.1.keep (by omega) hg9, H6.out.2.2.2.keep hCA hg9⟩
          have e3 : Hid (colm3 2 l3 = (b4, if b4 then l3.tail else l3)) := by show colm3 2 l3 = _; unfold colm3; rw [HS4.out]; cases b4 <;> simp
          clear hr9 hg9 q1
          have HRf : Hid (R = some (⟨nm, 2, false, b4⟩, (if b4 then l3.tail else l3))) := by
            show _ = _
            rw [HR3.out, e3.out]
          have a0 : w9.cell? ⟨w.heap.size, 0, none⟩ = some (.string ⟨#[]⟩) := by rw [H9.out.2.2.1.cell 0]; rfl
          have a1 : w9.cell? ⟨w.heap.size, 1, none⟩ = some (.int .i64 0) := by rw [H9.out.2.2.1.cell 1]; rfl
          have a2 : w9.cell? ⟨w.heap.size, 2, none⟩ = some (.bool false) := by rw [H9.out.2.2.1.cell 2]; rfl
          have a3 : w9.cell? ⟨w.heap.size, 3, none⟩ = some (.bool false) := by rw [H9.out.2.2.1.cell 3]; rfl
          have d0 : w9.cell? ⟨C, 0, none⟩ = some (.string nm) := by rw [H9.out.2.2.2.cell 0]; rfl
          have d1 : w9.cell? ⟨C, 1, none⟩ = some (.int .i64 2) := by rw [H9.out.2.2.2.cell 1]; rfl
          have d2 : w9.cell? ⟨C, 2, none⟩ = some (.bool false) := by rw [H9.out.2.2.2.cell 2]; rfl
          have d3 : w9.cell? ⟨C, 3, none⟩ = some (.bool false) := by rw [H9.out.2.2.2.cell 3]; rfl
          have f0 : ∀ i, w9.frozen? ⟨w.heap.size, i, none⟩ = false := fun i => H9.out.2.2.1.free i
          have f1 : ∀ i, w9.frozen? ⟨C, i, none⟩ = false := fun i => H9.out.2.2.2.free i
          have hCn : ¬ C = w.heap.size := fun e => hC0 e
          have hCn' : ¬ w.heap.size = C := fun e => hC0 e.symm
          go_wp2
          refine bodyPost_ret (v := .agg #[.string nm, .int .i64 2, .bool false, .bool b4]) (results_c Tryz.results102 _ _ _ rfl ?_) rfl ?_
          · simp [go_sem, a0, a1, a2, a3]
          · exact ⟨grown_new (grown_new (grown_new (grown_new (grown_new H9.out.2.1 hCw _ _) (Nat.le_refl _) _ _) (Nat.le_refl _) _ _) (Nat.le_refl _) _ _) (Nat.le_refl _) _ _, .inl ⟨_, _, HRf.out, rfl, ((((H9.out.1.set (by omega) _ _).set hA _ _).set hA _ _).set hA _ _).set hA _ _⟩⟩
        · go_wp2_with fail
          refine (need_any A l3.tail ⟨#[110, 117, 108, 108]⟩ w5 H5.out.1).mono ?_
          rintro _ w6 ⟨hg6, ⟨l6, hn6, rfl, hr6⟩ | ⟨hn6, n1, m1, rfl⟩⟩
          · have k6 := H5.out.2.2.2.keep hCA hg6
            have q2 : w6.cell? ⟨C, 2, none⟩ = some (.bool false) := by rw [k6.cell 2]; rfl
            have g2 := k6.free 2
            obtain ⟨w7, hw7⟩ : ∃ w7, w6.setCell ⟨C, 2, none⟩ (.bool true) = w7 := ⟨_, rfl⟩
            have H7 : Hid (RdIs A l6 w7 ∧ w.grownBy w7 (some A) ∧ Blk w.heap.size #[.string ⟨#[]⟩, .int .i64 0, .bool false, .bool false] 29 w7 ∧ Blk C #[.string nm, .int .i64 2, .bool true, .bool false] 29 w7) := by
              rw [← hw7]
              exact ⟨hr6.set (by omega) 2 _, grown_new (H5.out.2.1.trans hg6) hCw 2 _, (H5.out.2.2.1.keep (by omega) hg6).other hC0 2 _, k6.set 2 _⟩
            have HR3 : Hid (R = some (⟨nm, 2, true, (colm3 2 l6).1⟩, (colm3 2 l6).2)) := by
              show _ = _
              rw [HR2.out]; unfold colm2; rw [if_pos HS2.out, hn6]; rfl
            clear hg6 hn6 hr6 k6
            obtain ⟨b4, hb4⟩ : ∃ b, isT ⟨#[119, 111, 114, 100, 115]⟩ l6 = b := ⟨_, rfl⟩
            have HS4 : Hid (isT ⟨#[119, 111, 114, 100, 115]⟩ l6 = b4) := hb4
            clear hb4
            have q1 : w7.cell? ⟨C, 1, none⟩ = some (.int .i64 2) := by rw [H7.out.2.2.2.cell 1]; rfl
            go_wp2_with fail
            refine (has_any A l6 ⟨#[119, 111, 114, 100, 115]⟩ b4 HS4.out w7 H7.out.1).mono ?_
            rintro _ w9 ⟨rfl, hr9, hg9⟩
            have H9 : Hid (RdIs A (if b4 then l6.tail else l6) w9 ∧ w.grownBy w9 (some A) ∧ Blk w.heap.size #[.string ⟨#[]⟩, .int .i64 0, .bool false, .bool false] 29 w9 ∧ Blk C #[.string nm, .int .i64 2, .bool true, .bool false] 29 w9) := ⟨hr9, H7.out.2.1.trans hg9, H7.out.2.2.1.keep (by omega) hg9, H7.out.2.2.2.keep hCA hg9⟩
            have e3 : Hid (colm3 2 l6 = (b4, if b4 then l6.tail else l6)) := by show colm3 2 l6 = _; unfold colm3; rw [HS4.out]; cases b4 <;> simp
            clear hr9 hg9 q1
            have HRf : Hid (R = some (⟨nm, 2, true, b4⟩, (if b4 then l6.tail else l6))) := by
              show _ = _
              rw [HR3.out, e3.out]
            have a0 : w9.cell? ⟨w.heap.size, 0, none⟩ = some (.string ⟨#[]⟩) := by rw [H9.out.2.2.1.cell 0]; rfl
            have a1 : w9.cell? ⟨w.heap.size, 1, none⟩ = some (.int .i64 0) := by rw [H9.out.2.2.1.cell 1]; rfl
            have a2 : w9.cell? ⟨w.heap.size, 2, none⟩ = some (.bool false) := by rw [H9.out.2.2.1.cell 2]; rfl
            have a3 : w9.cell? ⟨w.heap.size, 3, none⟩ = some (.bool false) := by rw [H9.out.2.2.1.cell 3]; rfl
            have d0 : w9.cell? ⟨C, 0, none⟩ = some (.string nm) := by rw [H9.out.2.2.2.cell 0]; rfl
            have d1 : w9.cell? ⟨C, 1, none⟩ = some (.int .i64 2) := by rw [H9.out.2.2.2.cell 1]; rfl
            have d2 : w9.cell? ⟨C, 2, none⟩ = some (.bool true) := by rw [H9.out.2.2.2.cell 2]; rfl
            have d3 : w9.cell? ⟨C, 3, none⟩ = some (.bool false) := by rw [H9.out.2.2.2.cell 3]; rfl
            have f0 : ∀ i, w9.frozen? ⟨w.heap.size, i, none⟩ = false := fun i => H9.out.2.2.1.free i
            have f1 : ∀ i, w9.frozen? ⟨C, i, none⟩ = false := fun i => H9.out.2.2.2.free i
            have hCn : ¬ C = w.heap.size := fun e => hC0 e
            have hCn' : ¬ w.heap.size = C := fun e => hC0 e.symm
            go_wp2
            refine bodyPost_ret (v := .agg #[.string nm, .int .i64 2, .bool true, .bool b4]) (results_c Tryz.results102 _ _ _ rfl ?_) rfl ?_
            · simp [go_sem, a0, a1, a2, a3]
            · exact ⟨grown_new (grown_new (grown_new (grown_new (grown_new H9.out.2.1 hCw _ _) (Nat.le_refl _) _ _) (Nat.le_refl _) _ _) (Nat.le_refl _) _ _) (Nat.le_refl _) _ _, .inl ⟨_, _, HRf.out, rfl, ((((H9.out.1.set (by omega) _ _).set hA _ _).set hA _ _).set hA _ _).set hA _ _⟩⟩
          · have HG : Hid (w.grownBy w6 (some A) ∧ R = none) := ⟨H5.out.2.1.trans hg6, by rw [HR2.out]; unfold colm2; rw [if_pos HS2.out, hn6]; rfl⟩
            clear hg6 hn6
            go_wp2
            exact ⟨by first | rfl | trivial, HG.out.1, .inr ⟨HG.out.2, n1, m1, rfl⟩⟩
      · have HG : Hid (w.grownBy w3 (some A) ∧ R = none) := ⟨H2.out.2.1.trans hg3, by rw [HR1.out]; unfold colm1; rw [if_neg (by rw [HS1.out]; decide), hn3]; rfl⟩
        clear hg3 hn3
        go_wp2
        exact ⟨by first | rfl | trivial, HG.out.1, .inr ⟨HG.out.2, n1, m1, rfl⟩⟩
    · have HR2 : Hid (R = (colm2 l1.tail).map fun c => (⟨nm, 1, c.1, (colm3 1 c.2).1⟩, (colm3 1 c.2).2)) := by
        show _ = _
        rw [HR1.out]; unfold colm1; rw [if_pos HS1.out]; rfl
      have H4 : Hid (RdIs A l1.tail w2 ∧ w.grownBy w2 (some A) ∧ Blk w.heap.size #[.string ⟨#[]⟩, .int .i64 0, .bool false, .bool false] 29 w2 ∧ Blk C #[.string nm, .int .i64 1, .bool false, .bool false] 29 w2) := H2
      obtain ⟨b2, hb2⟩ : ∃ b, isT ⟨#[110, 111, 116]⟩ l1.tail = b := ⟨_, rfl⟩
      have HS2 : Hid (isT ⟨#[110, 111, 116]⟩ l1.tail = b2) := hb2
      clear hb2
      go_wp2_with fail
      refine (has_any A l1.tail ⟨#[110, 111, 116]⟩ b2 HS2.out w2 H4.out.1).mono ?_
      rintro _ w5 ⟨rfl, hr5, hg5⟩
      have H5 : Hid (RdIs A (if b2 then l1.tail.tail else l1.tail) w5 ∧ w.grownBy w5 (some A) ∧ Blk w.heap.size #[.string ⟨#[]⟩, .int .i64 0, .bool false, .bool false] 29 w5 ∧ Blk C #[.string nm, .int .i64 1, .bool false, .bool false] 29 w5) := ⟨hr5, H4.out.2.1.trans hg5, H4.out.2.2.1.keep (by omega) hg5, H4.out.2.2.2.keep hCA hg5⟩
      clear hr5 hg5
      cases b2
      · have HR3 : Hid (R = some (⟨nm, 1, false, (colm3 1 l1.tail).1⟩, (colm3 1 l1.tail).2)) := by
          show _ = _
          rw [HR2.out]; unfold colm2; rw [if_neg (by rw [HS2.out]; decide)]; rfl
        have H6 : Hid (RdIs A l1.tail w5 ∧ w.grownBy w5 (some A) ∧ Blk w.heap.size #[.string ⟨#[]⟩, .int .i64 0, .bool false, .bool false] 29 w5 ∧ Blk C #[.string nm, .int .i64 1, .bool false, .bool false] 29 w5) := H5
        have e3 : colm3 1 l1.tail = (false, l1.tail) := by unfold colm3; rw [if_neg (fun h => absurd h.1 (by decide))]
        have HRf : Hid (R = some (⟨nm, 1, false, false⟩, l1.tail)) := by
          show _ = _
          rw [HR3.out, e3]
        have a0 : w5.cell? ⟨w.heap.size, 0, none⟩ = some (.string ⟨#[]⟩) := by rw [H6.out.2.2.1.cell 0]; rfl
        have a1 : w5.cell? ⟨w.heap.size, 1, none⟩ = some (.int .i64 0) := by rw [H6.out.2.2.1.cell 1]; rfl
        have a2 : w5.cell? ⟨w.heap.size, 2, none⟩ = some (.bool false) := by rw [H6.out.2.2.1.cell 2]; rfl
        have a3 : w5.cell? ⟨w.heap.size, 3, none⟩ = some (.bool false) := by rw [H6.out.2.2.1.cell 3]; rfl
        have d0 : w5.cell? ⟨C, 0, none⟩ = some (.string nm) := by rw [H6.out.2.2.2.cell 0]; rfl
        have d1 : w5.cell? ⟨C, 1, none⟩ = some (.int .i64 1) := by rw [H6.out.2.2.2.cell 1]; rfl
        have d2 : w5.cell? ⟨C, 2, none⟩ = some (.bool false) := by rw [H6.out.2.2.2.cell 2]; rfl
        have d3 : w5.cell? ⟨C, 3, none⟩ = some (.bool false) := by rw [H6.out.2.2.2.cell 3]; rfl
        have f0 : ∀ i, w5.frozen? ⟨w.heap.size, i, none⟩ = false := fun i => H6.out.2.2.1.free i
        have f1 : ∀ i, w5.frozen? ⟨C, i, none⟩ = false := fun i => H6.out.2.2.2.free i
        have hCn : ¬ C = w.heap.size := fun e => hC0 e
        have hCn' : ¬ w.heap.size = C := fun e => hC0 e.symm
        go_wp2
        refine bodyPost_ret (v := .agg #[.string nm, .int .i64 1, .bool false, .bool false]) (results_c Tryz.results102 _ _ _ rfl ?_) rfl ?_
        · simp [go_sem, a0, a1, a2, a3]
        · exact ⟨grown_new (grown_new (grown_new (grown_new (grown_new H6.out.2.1 hCw _ _) (Nat.le_refl _) _ _) (Nat.le_refl _) _ _) (Nat.le_refl _) _ _) (Nat.le_refl _) _ _, .inl ⟨_, _, HRf.out, rfl, ((((H6.out.1.set (by omega) _ _).set hA _ _).set hA _ _).set hA _ _).set hA _ _⟩⟩
      · go_wp2_with fail
        refine (need_any A l1.tail.tail ⟨#[110, 117, 108, 108]⟩ w5 H5.out.1).mono ?_
        rintro _ w6 ⟨hg6, ⟨l6, hn6, rfl, hr6⟩ | ⟨hn6, n1, m1, rfl⟩⟩
        · have k6 := H5.out.2.2.2.keep hCA hg6
          have q2 : w6.cell? ⟨C, 2, none⟩ = some (.bool false) := by rw [k6.cell 2]; rfl
          have g2 := k6.free 2
          obtain ⟨w7, hw7⟩ : ∃ w7, w6.setCell ⟨C, 2, none⟩ (.bool true) = w7 := ⟨_, rfl⟩
          have H7 : Hid (RdIs A l6 w7 ∧ w.grownBy w7 (some A) ∧ Blk w.heap.size #[.string ⟨#[]⟩, .int .i64 0, .bool false, .bool false] 29 w7 ∧ Blk C #[.string nm, .int .i64 1, .bool true, .bool false] 29 w7) := by
            rw [← hw7]
            exact ⟨hr6.set (by omega) 2 _, grown_new (H5.out.2.1.trans hg6) hCw 2 _, (H5.out.2.2.1.keep (by omega) hg6).other hC0 2 _, k6.set 2 _⟩
          have HR3 : Hid (R = some (⟨nm, 1, true, (colm3 1 l6).1⟩, (colm3 1 l6).2)) := by
            show _ = _
            rw [HR2.out]; unfold colm2; rw [if_pos HS2.out, hn6]; rfl
          clear hg6 hn6 hr6 k6
          have e3 : colm3 1 l6 = (false, l6) := by unfold colm3; rw [if_neg (fun h => absurd h.1 (by decide))]
          have HRf : Hid (R = some (⟨nm, 1, true, false⟩, l6)) := by
            show _ = _
            rw [HR3.out, e3]
          have a0 : w7.cell? ⟨w.heap.size, 0, none⟩ = some (.string ⟨#[]⟩) := by rw [H7.out.2.2.1.cell 0]; rfl
          have a1 : w7.cell? ⟨w.heap.size, 1, none⟩ = some (.int .i64 0) := by rw [H7.out.2.2.1.cell 1]; rfl
          have a2 : w7.cell? ⟨w.heap.size, 2, none⟩ = some (.bool false) := by rw [H7.out.2.2.1.cell 2]; rfl
          have a3 : w7.cell? ⟨w.heap.size, 3, none⟩ = some (.bool false) := by rw [H7.out.2.2.1.cell 3]; rfl
          have d0 : w7.cell? ⟨C, 0, none⟩ = some (.string nm) := by rw [H7.out.2.2.2.cell 0]; rfl
          have d1 : w7.cell? ⟨C, 1, none⟩ = some (.int .i64 1) := by rw [H7.out.2.2.2.cell 1]; rfl
          have d2 : w7.cell? ⟨C, 2, none⟩ = some (.bool true) := by rw [H7.out.2.2.2.cell 2]; rfl
          have d3 : w7.cell? ⟨C, 3, none⟩ = some (.bool false) := by rw [H7.out.2.2.2.cell 3]; rfl
          have f0 : ∀ i, w7.frozen? ⟨w.heap.size, i, none⟩ = false := fun i => H7.out.2.2.1.free i
          have f1 : ∀ i, w7.frozen? ⟨C, i, none⟩ = false := fun i => H7.out.2.2.2.free i
          have hCn : ¬ C = w.heap.size := fun e => hC0 e
          have hCn' : ¬ w.heap.size = C := fun e => hC0 e.symm
          go_wp2
          refine bodyPost_ret (v := .agg #[.string nm, .int .i64 1, .bool true, .bool false]) (results_c Tryz.results102 _ _ _ rfl ?_) rfl ?_
          · simp [go_sem, a0, a1, a2, a3]
          · exact ⟨grown_new (grown_new (grown_new (grown_new (grown_new H7.out.2.1 hCw _ _) (Nat.le_refl _) _ _) (Nat.le_refl _) _ _) (Nat.le_refl _) _ _) (Nat.le_refl _) _ _, .inl ⟨_, _, HRf.out, rfl, ((((H7.out.1.set (by omega) _ _).set hA _ _).set hA _ _).set hA _ _).set hA _ _⟩⟩
        · have HG : Hid (w.grownBy w6 (some A) ∧ R = none) := ⟨H5.out.2.1.trans hg6, by rw [HR2.out]; unfold colm2; rw [if_pos HS2.out, hn6]; rfl⟩
          clear hg6 hn6
          go_wp2
          exact ⟨by first | rfl | trivial, HG.out.1, .inr ⟨HG.out.2, n1, m1, rfl⟩⟩
  · have HG : Hid (w.grownBy w1 (some A) ∧ R = none) := ⟨HW.out.2.1.trans hg1, by rw [← HR.out, hn1]; rfl⟩
    clear hg1 hn1
    go_wp2
    exact ⟨by first | rfl | trivial, HG.out.1, .inr ⟨HG.out.2, n1, m1, rfl⟩⟩
end Go.Proofs.YtmabfbffpedfnaaGreatDoor
namespace Go.Proofs.YtmabfbffpedfnaaGreatDoor
open Go.RowKit

set_option maxRecDepth 100000 in
set_option maxHeartbeats 64000000 in
theorem cl_cc {A S x : Nat} {w0 : World} {sv : SV} {J : World → Prop} (hJ : StaysJ A 29 62 J) {L : List Colm} {l : List KT} {w : World} (h : Acc 300 A S x w0 (fun v => ({ sv with cols := v } : SV).cells) 62 29 4 EC J L l w) :
    Calls Tryz.prog 101 #[.pointer (some ⟨S, 0, none⟩), .pointer (some ⟨x, 0, none⟩)] w fun e w' => (∃ L2 l2, oneOf colmF L l = some (L2, l2) ∧ e = .returned (.tuple #[]) ∧ Acc 301 A S x w0 (fun v => ({ sv with cols := v } : SV).cells) 62 29 4 EC J L2 l2 w') ∨ (oneOf colmF L l = none ∧ Thr e ∧ w0.grownBy w' (some A)) := by
  obtain ⟨i0, hi, hz0, hz1, hz2⟩ := info_parts infoCol
  skip
  have H : Hid (Acc 300 A S x w0 (fun v => ({ sv with cols := v } : SV).cells) 62 29 4 EC J L l w) := h
  have HJ : Hid (StaysJ A 29 62 J) := hJ
  obtain ⟨v, hst, cs, hcs, hown⟩ := h.st
  obtain ⟨a4, c4, rfl⟩ := own_slice hown
  have hcnt := h.cnt
  have hLr : L.length ≤ 300 := by omega
  have hlo := h.lo
  have hS0 := h.S0
  have HD : Hid (RdIs A l w.drew) := h.rd.below (Below.refl _ _).drew
  have HC : Hid (∀ wx, Fr (fun k o => k = A ∨ ∃ c fz, o = .cells c 29 fz) w.drew wx → wx.cell? ⟨S, 3, none⟩ = some (.slice a4 L.length c4) ∧ wx.frozen? ⟨S, 3, none⟩ = false ∧ wx.cell? ⟨x, 0, none⟩ = some (.pointer (some ⟨A, 0, none⟩)) ∧ w0.heap.size ≤ wx.heap.size) := fun wx hf => by
    have h1 := (hst.below (Below.refl _ _).drew).fr hf (by
      rintro (e | ⟨c, fz, e⟩)
      · omega
      · cases e)
    have h2 := (h.hx.below (Below.refl _ _).drew).fr hf (by
      rintro (e | ⟨c, fz, e⟩)
      · exact h.nx e
      · cases e)
    exact ⟨by rw [h1.cell 3]; rfl, h1.free 3, by rw [h2.cell 0]; rfl, by have := h1.lt; omega⟩
  have HFr : Hid (Fr (fun k o => k = A ∨ ∃ c fz, o = .cells c 29 fz) w.drew w.drew) := Fr.refl _ _
  have HOw : Hid (w.drew.ownsRow w0.heap.size 29 4 (.slice a4 L.length c4) L.length cs.flatten) := own_below hown (Below.refl _ _).drew
  have HKeep : Hid (All2 (EC w) L cs ∧ Blk S ((fun v => ({ sv with cols := v } : SV).cells) (.slice a4 L.length c4)) 62 w ∧ w.ownsRow w0.heap.size 29 4 (.slice a4 L.length c4) L.length cs.flatten) := ⟨hcs, hst, hown⟩
  skip
  clear h hJ hst hcs hown
  obtain ⟨cS, fS, cX, lS⟩ := HC.out _ HFr.out
  cases hF : colmF l with
  | none =>
    have HR : Hid (oneOf colmF L l = none) := by show oneOf colmF L l = none; unfold oneOf; rw [hF]; rfl
    have HFn : Hid (colmF l = none) := hF
    clear hF
    go_enter Tryz.func101, Tryz.ntmps101
    go_wp2_with fail
    refine wp_region_held_drew (S := fun w' => w'.cell? ⟨S, 3, none⟩ = some (.slice a4 L.length c4) ∧ w'.cell? ⟨x, 0, none⟩ = some (.pointer (some ⟨A, 0, none⟩))) (by kernel_rfl) ⟨cS, cX⟩ (fun hHeld => ?_)
    refine wpAnyH_take (i := 0) (oi := { dst := some 2, op := Op.fieldAddr 62 (Operand.tmp 0) 3, type := 0, pos := "statement.go:64", after := #[], guard := none }) (v := (.pointer (some ⟨S, 3, none⟩))) rfl (by kernel_rfl) (by kernel_rfl) (by kernel_rfl) (fun _ _ _ h => h) (Or.inl ⟨by rfl, fun w' hSw => ?_⟩) hHeld ?_
    · (try dsimp only at hSw)
      go_simp
    simp only [Act.put, List.setIfInBounds_toArray, List.set_cons_zero, List.set_cons_succ]
    refine wpAnyH_take (i := 1) (oi := { dst := some 3, op := Op.load 30 (Operand.tmp 2), type := 30, pos := "statement.go:64", after := #[{ on := 0, ground := Ground.data }], guard := none }) (v := (.slice a4 L.length c4)) rfl (by kernel_rfl) (by kernel_rfl) (by kernel_rfl) (fun _ _ _ h => h) (Or.inl ⟨by rfl, fun w' hSw => ?_⟩) hHeld ?_
    · (try dsimp only at hSw)
      go_simp
    simp only [Act.put, List.setIfInBounds_toArray, List.set_cons_zero, List.set_cons_succ]
    refine wpAnyH_take (i := 2) (oi := { dst := some 4, op := Op.load 117 (Operand.tmp 1), type := 117, pos := "statement.go:64", after := #[], guard := none }) (v := (.pointer (some ⟨A, 0, none⟩))) rfl (by kernel_rfl) (by kernel_rfl) (by kernel_rfl) (fun _ _ _ h => h) (Or.inl ⟨by rfl, fun w' hSw => ?_⟩) hHeld ?_
    · (try dsimp only at hSw)
      go_simp
    simp only [Act.put, List.setIfInBounds_toArray, List.set_cons_zero, List.set_cons_succ]
    refine wpAnyH_ready (rs := [3]) (by kernel_rfl) (by simp) ?_
    refine AllReadyH.cons (o := { dst := some 5, op := Op.call { callee := Callee.value (Operand.func 102), args := #[Operand.tmp 4], argTypes := #[117] }, type := 29, pos := "statement.go:64", after := #[{ on := 2, ground := Ground.data }], guard := none }) rfl (fun K hK => ?_) AllReadyH.nil
    clear hHeld
    go_simp
    refine (column_any A l _ HD.out).mono ?_
    rw [HFn.out]
    rintro _ w10 ⟨hg2, ⟨a, l2, hs2, rfl, hr2⟩ | ⟨hs2, n9, m9, rfl⟩⟩
    · cases hs2
    · have HG : Hid (w0.grownBy w10 (some A)) := (H.out.gr.trans (grown_drew _ _)).trans hg2
      refine (show _ ∧ _ from ⟨?_, .inr ⟨HR.out, ⟨n9, m9, rfl⟩, HG.out⟩⟩)
      first | rfl | trivial
  | some r =>
    obtain ⟨a', l'⟩ := r
    have HR : Hid (oneOf colmF L l = some (L ++ [a'], l')) := by show oneOf colmF L l = _; unfold oneOf; rw [hF]; rfl
    have HRl : Hid (l'.length ≤ l.length) := (colmF_reads l H.out.rd.ok _ hF).2
    have HFs : Hid (colmF l = some (a', l')) := hF
    clear hF
    go_enter Tryz.func101, Tryz.ntmps101
    go_wp2_with fail
    go_region_law (first
      | (refine step_append_lies _ rfl (.tmp 3) (.tmp 6) 30 rfl w0.heap.size 29 i0 (.agg #[.string ⟨#[]⟩, .int .i64 0, .bool false, .bool false]) 4 32 Tryz.underlying30 hi hz0 hz1 hz2 rfl (by decide) (.slice a4 L.length c4) L.length cs.flatten (by simp [Act.eval]) (HOw.out.alloc _) ⟨w10.heap.size, 0, none⟩ 1 1 [.string a'.nm, .int .i64 a'.k, .bool a'.mu, .bool a'.wo] (by simp [Act.eval]) rfl (news_four w10 _ _ _ _ _) (by intro u hu; simp at hu; rcases hu with rfl | rfl | rfl | rfl <;> rfl) (by decide) (by simp [maxLen]; omega) (by omega) (by simp; omega) _ rfl ?_; intro g3 cap3 w3 ho3 hg3 _ _; have HO3 : Hid (w3.ownsRow w0.heap.size 29 4 (.slice (some ⟨g3, 0, none⟩) (L.length + 1) cap3) (L.length + 1) (cs.flatten ++ [.string a'.nm, .int .i64 a'.k, .bool a'.mu, .bool a'.wo])) := ho3; have HG3 : Hid ((w10.alloc (.cells #[.string a'.nm, .int .i64 a'.k, .bool a'.mu, .bool a'.wo] 29)).grownBy w3 (Value.slice a4 L.length c4).ownBlock) := hg3; have HFr : Hid (Fr (fun k o => k = A ∨ ∃ c fz, o = .cells c 29 fz) w.drew w3) := (HFr.out.trans (Fr.of_below ((Below.refl _ _).alloc (Nat.le_refl _) _))).trans (Fr.row (fun _ _ _ => .inr ⟨_, _, rfl⟩) (HOw.out.alloc _) hg3); obtain ⟨cSd, fSd, cXd, lSd⟩ := HC.out _ HFr.out; clear ho3 hg3)
      | (go_wp2_with (go_at_call 102; refine Calls.mono (column_any A l _ HD.out) ?_; rw [HFs.out]; rintro _ w10 ⟨hg2, hc2⟩; obtain ⟨a, l2, hs2, rfl, hr2⟩ := hc2.resolve_right (fun h => by cases h.1); obtain ⟨rfl, rfl⟩ := Prod.mk.inj (Option.some.inj hs2); have HG : Hid (w.drew.grownBy w10 (some A)) := hg2; have HFr : Hid (Fr (fun k o => k = A ∨ ∃ c fz, o = .cells c 29 fz) w.drew w10) := Fr.of_grown (fun _ => .inl rfl) hg2; have HR2 : Hid (RdIs A l' w10) := hr2; have HOw : Hid (w10.ownsRow w0.heap.size 29 4 (.slice a4 L.length c4) L.length cs.flatten) := own_grownN hlo HOw.out hg2; obtain ⟨cSb, fSb, cXb, lSb⟩ := HC.out _ HFr.out; obtain ⟨cSc, fSc, cXc, lSc⟩ := HC.out (w10.alloc (.cells #[.string a'.nm, .int .i64 a'.k, .bool a'.mu, .bool a'.wo] 29)) (HFr.out.trans (Fr.of_below ((Below.refl _ _).alloc (Nat.le_refl _) _))); clear hr2 hg2 hs2)))
    all_goals
      go_end0
      exact .inl ⟨_, _, HR.out, rfl, Acc.snoc H.out EC_stays HJ.out (by decide) HKeep.out.2.1 HKeep.out.1 HKeep.out.2.2 ((grown_drew _ _).trans HG.out) HR2.out (rfl : EC w10 a' _) HG3.out HO3.out rfl HRl.out⟩
end Go.Proofs.YtmabfbffpedfnaaGreatDoor
namespace Go.Proofs.YtmabfbffpedfnaaGreatDoor
open Go.RowKit

theorem li_cc {A S x : Nat} {w0 : World} {sv : SV} {J : World → Prop} (hJ : StaysJ A 29 62 J) {L : List Colm} {l : List KT} {w : World} (h : Acc 300 A S x w0 (fun v => ({ sv with cols := v } : SV).cells) 62 29 4 EC J L l w) :
    Calls Tryz.prog 100 #[.pointer (some ⟨A, 0, none⟩), .func (.func 101) #[] #[.pointer (some ⟨S, 0, none⟩), .pointer (some ⟨x, 0, none⟩)]] w fun e w' =>
      (∃ L2 l2, listS (oneOf colmF) L l = some (L2, l2) ∧ e = .returned (.tuple #[]) ∧ Acc 301 A S x w0 (fun v => ({ sv with cols := v } : SV).cells) 62 29 4 EC J L2 l2 w') ∨ (listS (oneOf colmF) L l = none ∧ Thr e ∧ w0.grownBy w' (some A)) := by
  have hs : Stays A 29 62 EC := EC_stays
  refine list_cc (fun s => oneOf_reads colmF_reads s) A _ _ (fun L l w => Acc 300 A S x w0 (fun v => ({ sv with cols := v } : SV).cells) 62 29 4 EC J L l w) (fun L l w => Acc 301 A S x w0 (fun v => ({ sv with cols := v } : SV).cells) 62 29 4 EC J L l w) (fun w' => w0.grownBy w' (some A)) (fun _ _ _ h => h.rd) ?_ ?_ (fun s l w h => cl_cc hJ h) L l w h h.rd.ok
  · intro L l w w1 h hr hg
    exact h.grown hs hJ hr hg h.cnt
  · intro L l w w1 h hr hg hl
    exact h.grown hs hJ hr hg (by have := h.cnt; omega)
end Go.Proofs.YtmabfbffpedfnaaGreatDoor
namespace Go.Proofs.YtmabfbffpedfnaaGreatDoor
open Go.RowKit

def PreN (A S x : Nat) (w0 : World) (st : Stm) (l : List KT) (w : World) : Prop := SI A S w0 st l w ∧ Blk x #[.pointer (some ⟨A, 0, none⟩)] 117 w ∧ x ≠ A
set_option maxHeartbeats 4000000 in
theorem create1_any {A S x : Nat} {w0 : World} {st : Stm} {l : List KT} {w : World} (h : PreN A S x w0 st l w) : Calls Tryz.prog 98 #[.pointer (some ⟨x, 0, none⟩), .pointer (some ⟨S, 0, none⟩)] w fun e w' =>
    (∃ a l2, nameF l = some (a, l2) ∧ e = .returned (.tuple #[]) ∧ SI A S w0 { st with name := a } l2 w') ∨ (nameF l = none ∧ Thr e ∧ w0.grownBy w' (some A)) := by
  have H : Hid (PreN A S x w0 st l w) := h
  have cx : w.cell? ⟨x, 0, none⟩ = some (.pointer (some ⟨A, 0, none⟩)) := by rw [h.2.1.cell 0]; rfl
  clear h
  go_enter Tryz.func98, Tryz.ntmps98
  go_wp2_with fail
  refine (name_any A l w H.out.1.rd).mono ?_
  rintro _ w1 ⟨hg, ⟨nm, l1, hn, rfl, hr, _⟩ | ⟨hn, n1, m1, rfl⟩⟩
  · have H1 : Hid (SI A S w0 st l1 w1) := H.out.1.grown hr hg
    obtain ⟨⟨v0, c0⟩, f0⟩ := H1.out.cell (i := 4) (by decide)
    have H2 : Hid (SI A S w0 { st with name := nm } l1 (w1.setCell ⟨S, 4, none⟩ (.string nm)) ∧ nameF l = some (nm, l1)) := ⟨H1.out.set_name nm, hn⟩
    clear hg hn hr
    go_wp2
    go_end0
    exact .inl ⟨_, _, H2.out.2, rfl, H2.out.1⟩
  · have HG : Hid (w0.grownBy w1 (some A) ∧ nameF l = none) := ⟨H.out.1.gr.trans hg, hn⟩
    clear hg hn
    go_wp2
    exact ⟨by first | rfl | trivial, .inr ⟨HG.out.2, ⟨n1, m1, rfl⟩, HG.out.1⟩⟩
theorem in_ci {A S x : Nat} {w0 : World} {st : Stm} {l : List KT} {w : World} (h : PreN A S x w0 st l w) :
    Calls Tryz.prog 97 #[.pointer (some ⟨A, 0, none⟩), .func (.func 98) #[] #[.pointer (some ⟨x, 0, none⟩), .pointer (some ⟨S, 0, none⟩)]] w fun e w' =>
      (∃ a l2, insideF nameF l = some (a, l2) ∧ e = .returned (.tuple #[]) ∧ SI A S w0 { st with name := a } l2 w') ∨ (insideF nameF l = none ∧ Thr e ∧ w0.grownBy w' (some A)) := by
  refine inside_ci A _ _ (fun l w => PreN A S x w0 st l w) (fun a l w => SI A S w0 { st with name := a } l w) (fun w' => w0.grownBy w' (some A)) (fun _ _ h => h.1.rd) ?_ (fun _ _ _ h => h.rd) ?_ (fun l w w1 h hg => h.1.gr.trans hg) (fun a l w w1 h hg => h.gr.trans hg) (fun l w h => create1_any h) l w h
  · intro l l1 w w1 h hr hg _
    exact ⟨h.1.grown hr hg, h.2.1.keep h.2.2 hg, h.2.2⟩
  · intro a l l1 w w1 h hr hg _
    exact h.grown hr hg
abbrev AccC (c A S x : Nat) (w0 : World) (sv : SV) (J : World → Prop) (L : List Colm) (l : List KT) (w : World) : Prop := Acc c A S x w0 (fun v => ({ sv with cols := v } : SV).cells) 62 29 4 EC J L l w
set_option maxHeartbeats 4000000 in
theorem create2_any {A S x : Nat} {w0 : World} {sv : SV} {J : World → Prop} (hJ : StaysJ A 29 62 J) {l : List KT} {w : World} (h : AccC 300 A S x w0 sv J [] l w) : Calls Tryz.prog 99 #[.pointer (some ⟨x, 0, none⟩), .pointer (some ⟨S, 0, none⟩)] w fun e w' =>
    (∃ L2 l2, listF colmF l = some (L2, l2) ∧ e = .returned (.tuple #[]) ∧ AccC 301 A S x w0 sv J L2 l2 w') ∨ (listF colmF l = none ∧ Thr e ∧ w0.grownBy w' (some A)) := by
  have HJ : Hid (StaysJ A 29 62 J) := hJ
  have H : Hid (AccC 300 A S x w0 sv J [] l w) := h
  have cx : w.cell? ⟨x, 0, none⟩ = some (.pointer (some ⟨A, 0, none⟩)) := by rw [h.hx.cell 0]; rfl
  clear h hJ
  go_enter Tryz.func99, Tryz.ntmps99
  go_wp2_with fail
  refine (li_cc HJ.out H.out).mono ?_
  rintro _ w1 (⟨L2, l2, h1, rfl, h2⟩ | ⟨h1, ⟨n1, m1, rfl⟩, h2⟩)
  · go_wp2
    go_end0
    exact .inl ⟨_, _, h1, rfl, h2⟩
  · go_wp2
    exact ⟨by first | rfl | trivial, .inr ⟨h1, ⟨n1, m1, rfl⟩, h2⟩⟩
theorem in_cc {A S x : Nat} {w0 : World} {sv : SV} {J : World → Prop} (hJ : StaysJ A 29 62 J) {l : List KT} {w : World} (h : AccC 300 A S x w0 sv J [] l w) :
    Calls Tryz.prog 97 #[.pointer (some ⟨A, 0, none⟩), .func (.func 99) #[] #[.pointer (some ⟨x, 0, none⟩), .pointer (some ⟨S, 0, none⟩)]] w fun e w' =>
      (∃ L2 l2, insideF (listF colmF) l = some (L2, l2) ∧ e = .returned (.tuple #[]) ∧ AccC 301 A S x w0 sv J L2 l2 w') ∨ (insideF (listF colmF) l = none ∧ Thr e ∧ w0.grownBy w' (some A)) := by
  refine inside_cc A _ _ (fun l w => AccC 300 A S x w0 sv J [] l w) (fun L l w => AccC 301 A S x w0 sv J L l w) (fun w' => w0.grownBy w' (some A)) (fun _ _ h => h.rd) ?_ (fun _ _ _ h => h.rd) ?_ (fun l w w1 h hg => h.gr.trans hg) (fun a l w w1 h hg => h.gr.trans hg) (fun l w h => create2_any hJ h) l w h
  · intro l l1 w w1 h hr hg hl
    exact h.grown EC_stays hJ hr hg (by have := h.cnt; omega)
  · intro a l l1 w w1 h hr hg hl
    exact h.grown EC_stays hJ hr hg (by have := h.cnt; omega)
theorem inside_ne {l : List KT} {x : List Colm × List KT} (h : insideF (listF colmF) l = some x) : x.1 ≠ [] := by
  obtain ⟨l1, _, h⟩ := Option.bind_eq_some_iff.1 h
  obtain ⟨y, hy, h⟩ := Option.bind_eq_some_iff.1 h
  obtain ⟨z, _, rfl⟩ := Option.map_eq_some_iff.1 h
  exact (listS_ne (x := y) hy : y.1 ≠ [])
end Go.Proofs.YtmabfbffpedfnaaGreatDoor
namespace Go.Proofs.YtmabfbffpedfnaaGreatDoor
open Go.RowKit

set_option maxRecDepth 100000 in
set_option maxHeartbeats 16000000 in
theorem create_any (A : Nat) (l : List KT) (w : World) (h : RdIs A l w) : Calls Tryz.prog 84 #[.pointer (some ⟨A, 0, none⟩)] w fun e w' => ToldT A (createF l) w e w' := by
  skip
  obtain ⟨W1, hW1⟩ : ∃ W, (w.alloc (.cells #[.pointer (some ⟨A, 0, none⟩)] 117)).alloc (.cells #[.int .i64 0, .string ⟨#[]⟩, .string ⟨#[]⟩, .slice none 0 0, .string ⟨#[]⟩, .slice none 0 0, .slice none 0 0, .pointer none, .pointer none, .slice none 0 0, .pointer none, .slice none 0 0, .int .i64 0] 62) = W := ⟨_, rfl⟩
  have hb1 : Below w.heap.size w W1 := by rw [← hW1]; exact ((Below.refl _ _).alloc (Nat.le_refl _) _).alloc (by simp) _
  have hs1 : W1.heap.size = w.heap.size + 2 := by rw [← hW1]; simp
  have hkx : Blk w.heap.size #[.pointer (some ⟨A, 0, none⟩)] 117 W1 := by rw [← hW1]; exact (Blk.new _ _ _).below ((Below.refl _ _).alloc (Nat.le_refl _) _)
  have hk1 : Blk (w.heap.size + 1) svZ.cells 62 W1 := by
    have := Blk.new (w.alloc (.cells #[.pointer (some ⟨A, 0, none⟩)] 117)) #[.int .i64 0, .string ⟨#[]⟩, .string ⟨#[]⟩, .slice none 0 0, .string ⟨#[]⟩, .slice none 0 0, .slice none 0 0, .pointer none, .pointer none, .slice none 0 0, .pointer none, .slice none 0 0, .int .i64 0] 62
    rw [hW1, World.size_alloc] at this
    exact this
  have HB1 : Hid (Blk w.heap.size #[.pointer (some ⟨A, 0, none⟩)] 117 W1 ∧ Blk (w.heap.size + 1) svZ.cells 62 W1 ∧ w.grownBy W1 (some A) ∧ W1.heap.size = w.heap.size + 2 ∧ A < w.heap.size) := ⟨hkx, hk1, grown_of_belowA hb1 _, hs1, h.lt⟩
  have cxW1 : W1.cell? ⟨w.heap.size, 0, none⟩ = some (.pointer (some ⟨A, 0, none⟩)) := by rw [hkx.cell 0]; rfl
  have HW : Hid (RdIs A l W1 ∧ W1.grownBy W1 (some A)) := ⟨h.below hb1, grownA_refl _ _⟩
  obtain ⟨R, hR⟩ : ∃ R, createF l = R := ⟨_, rfl⟩
  have E0 : Hid (R = createF l) := hR.symm
  unfold ToldT
  rw [hR]
  clear h hR hb1 hs1 hk1 hkx
  go_enter Tryz.func84, Tryz.ntmps84
  obtain ⟨b1, hb1⟩ : ∃ b, isT ⟨#[105, 110, 100, 101, 120]⟩ l = b := ⟨_, rfl⟩
  have HS3 : Hid (isT ⟨#[105, 110, 100, 101, 120]⟩ l = b1) := hb1
  clear hb1
  go_wp2_with fail
  refine (has_any A l ⟨#[105, 110, 100, 101, 120]⟩ b1 HS3.out W1 HW.out.1).mono ?_
  rintro _ w2 ⟨rfl, hr, hg⟩
  cases b1
  · have H4 : Hid (RdIs A l w2 ∧ W1.grownBy w2 (some A)) := ⟨hr, HW.out.2.trans hg⟩
    have E6 : Hid (R = (needF ⟨#[116, 97, 98, 108, 101]⟩ l).bind fun l1 => (nameF l1).bind fun a => (insideF (listF colmF) a.2).map fun b => ({ ofS 1 a.1 with cols := b.1 }, b.2)) := by show _ = _; rw [E0.out]; unfold createF; rw [if_neg (by rw [HS3.out]; decide)]
    have cxw2 : w2.cell? ⟨w.heap.size, 0, none⟩ = some (.pointer (some ⟨A, 0, none⟩)) := by rw [(HB1.out.1.keep (by have := HB1.out.2.2.2.2; omega) H4.out.2).cell 0]; rfl
    clear hr hg
    go_wp2_with fail
    refine (need_any A l ⟨#[116, 97, 98, 108, 101]⟩ w2 H4.out.1).mono ?_
    rintro _ w8 ⟨hg, ⟨l9, hn, rfl, hr⟩ | ⟨hn, n1, m1, rfl⟩⟩
    · have H10 : Hid (RdIs A l9 w8 ∧ W1.grownBy w8 (some A)) := ⟨hr, H4.out.2.trans hg⟩
      have E11 : Hid (R = (nameF l9).bind fun a => (insideF (listF colmF) a.2).map fun b => ({ ofS 1 a.1 with cols := b.1 }, b.2)) := by show _ = _; rw [E6.out, hn]; first | rw [Option.bind_some] | rw [Option.map_some]
      have cxw8 : w8.cell? ⟨w.heap.size, 0, none⟩ = some (.pointer (some ⟨A, 0, none⟩)) := by rw [(HB1.out.1.keep (by have := HB1.out.2.2.2.2; omega) H10.out.2).cell 0]; rfl
      clear hg hn hr
      go_wp2_with fail
      refine (name_any A l9 w8 H10.out.1).mono ?_
      rintro _ w12 ⟨hg, ⟨nm14, l13, hn, rfl, hr, hz15⟩ | ⟨hn, n1, m1, rfl⟩⟩
      · have H16 : Hid (RdIs A l13 w12 ∧ W1.grownBy w12 (some A)) := ⟨hr, H10.out.2.trans hg⟩
        have E17 : Hid (R = (insideF (listF colmF) l13).map fun b => ({ ofS 1 nm14 with cols := b.1 }, b.2)) := by show _ = _; rw [E11.out, hn]; first | rw [Option.bind_some] | rw [Option.map_some]
        have cxw12 : w12.cell? ⟨w.heap.size, 0, none⟩ = some (.pointer (some ⟨A, 0, none⟩)) := by rw [(HB1.out.1.keep (by have := HB1.out.2.2.2.2; omega) H16.out.2).cell 0]; rfl
        clear hg hn hr
        go_wp2_with fail
        refine (of_any 1 nm14 w12).mono ?_
        rintro _ w18 ⟨rfl, hb⟩
        have hkA : Blk w18.heap.size svZ.cells 62 (w18.alloc (.cells #[.int .i64 0, .string ⟨#[]⟩, .string ⟨#[]⟩, .slice none 0 0, .string ⟨#[]⟩, .slice none 0 0, .slice none 0 0, .pointer none, .pointer none, .slice none 0 0, .pointer none, .slice none 0 0, .int .i64 0] 62)) := Blk.new _ _ _
        have HKA : Hid (Blk w18.heap.size svZ.cells 62 (w18.alloc (.cells #[.int .i64 0, .string ⟨#[]⟩, .string ⟨#[]⟩, .slice none 0 0, .string ⟨#[]⟩, .slice none 0 0, .slice none 0 0, .pointer none, .pointer none, .slice none 0 0, .pointer none, .slice none 0 0, .int .i64 0] 62))) := hkA
        obtain ⟨V19, hV19⟩ : ∃ V, (w18.alloc (.cells #[.int .i64 0, .string ⟨#[]⟩, .string ⟨#[]⟩, .slice none 0 0, .string ⟨#[]⟩, .slice none 0 0, .slice none 0 0, .pointer none, .pointer none, .slice none 0 0, .pointer none, .slice none 0 0, .int .i64 0] 62)).setCells w18.heap.size 0 (svOf 1 nm14).cells.toList = V := ⟨_, rfl⟩
        have hgV : w18.grownBy V19 (some A) := by rw [← hV19]; exact grown_sets _ 0 (grown_alloc _ _ _) (Nat.le_refl _)
        have H20 : Hid (SI A w18.heap.size W1 (ofS 1 nm14) l13 V19) := by
          refine ⟨?_, (H16.out.2.trans (grown_of_belowA hb _)).trans hgV, ⟨svOf 1 nm14, ?_, svis_of _ _ _ _⟩, by have := HB1.out.2.2.2; omega, by have h1 := (H16.out.2.trans (grown_of_belowA hb (some A))).size; exact h1⟩
          · rw [← hV19]
            exact RdIs.setsN _ 0 ((H16.out.1.below hb).below ((Below.refl _ _).alloc (Nat.le_refl _) _)) ((H16.out.1.below hb).lt)
          · rw [← hV19]
            exact hkA.stored
        have cxV19 : V19.cell? ⟨w.heap.size, 0, none⟩ = some (.pointer (some ⟨A, 0, none⟩)) := by rw [(HB1.out.1.keep (by have := HB1.out.2.2.2.2; omega) H20.out.gr).cell 0]; rfl
        clear hb hkA hgV
        go_wp2_with (refine wpList_store_mid rfl 62 _ _ rfl _ 0 (svOf 1 nm14).cells rfl rfl (HKA.out.there rfl) (s30 _) (svOf_rows 1 nm14).one ?_; rw [hV19])
        clear HKA
        obtain ⟨sv26, hA1, hA2⟩ := H20.out.acc_cols (x := w.heap.size) rfl (HB1.out.1.keep (by have := HB1.out.2.2.2; omega) H20.out.gr) (by have := HB1.out.2.2.2; omega) (by have h1 := HB1.out.2.2.2; have h2 := H20.out.S0; omega)
        have HA : Hid (_ ∧ _) := ⟨hA1, hA2⟩
        clear hA1 hA2
        go_wp2_with fail
        refine (in_cc HA.out.2 HA.out.1).mono ?_
        rintro _ w21 (⟨L23, l22, hn, rfl, ha⟩ | ⟨hn, ⟨n1, m1, rfl⟩, hg⟩)
        · have H24 : Hid (SI A w18.heap.size W1 { (ofS 1 nm14) with cols := L23 } l22 w21) := SI.of_cols ha (inside_ne hn)
          have E25 : Hid (R = some ({ ofS 1 nm14 with cols := L23 }, l22)) := by show _ = _; rw [E17.out, hn]; first | rw [Option.bind_some] | rw [Option.map_some]
          have cxw21 : w21.cell? ⟨w.heap.size, 0, none⟩ = some (.pointer (some ⟨A, 0, none⟩)) := by rw [(HB1.out.1.keep (by have := HB1.out.2.2.2.2; omega) H24.out.gr).cell 0]; rfl
          clear hn ha HA
          obtain ⟨sv, hk, hv⟩ := H24.out.st
          have HK : Hid (Blk w18.heap.size sv.cells 62 w21 ∧ Blk (w.heap.size + 1) svZ.cells 62 w21 ∧ SVIs W1.heap.size sv { (ofS 1 nm14) with cols := L23 } w21) := ⟨hk, HB1.out.2.1.keep (by have := HB1.out.2.2.2; omega) H24.out.gr, hv⟩
          clear hk hv
          go_wp2_with (first | (refine wpList_load_mid rfl 62 _ rfl _ 0 rfl sv.cells.toList _ HK.out.1.range Tryz.underlying62 rfl (s30 sv) ?_) | (refine wpList_store_mid rfl 62 _ _ rfl _ 0 sv.cells rfl rfl (HK.out.2.1.there rfl) (s30 _) (HK.out.2.2.rowsOk).one ?_))
          refine bodyPost_ret (v := .agg sv.cells) (results_c Tryz.results84 _ _ _ rfl (load30 HK.out.2.1.stored)) rfl ?_
          refine ⟨grown_sets _ 0 (HB1.out.2.2.1.trans H24.out.gr) (by omega), .inl ⟨_, _, sv, E25.out, rfl, ?_, RdIs.setsN _ 0 H24.out.rd (by have := HB1.out.2.2.2; omega)⟩⟩
          exact (HK.out.2.2.st (by have := HB1.out.2.2.2; omega) (fr_sets _ 0 HK.out.2.1)).low (by have := HB1.out.2.2.2; omega)
        · have HG : Hid (w.grownBy w21 (some A) ∧ R = none) := ⟨HB1.out.2.2.1.trans hg, by rw [E17.out, hn]; rfl⟩
          clear hg hn
          go_wp2
          exact ⟨by first | rfl | trivial, HG.out.1, .inr ⟨HG.out.2, n1, m1, rfl⟩⟩
      · have HG : Hid (w.grownBy w12 (some A) ∧ R = none) := ⟨HB1.out.2.2.1.trans (H10.out.2.trans hg), by rw [E11.out, hn]; rfl⟩
        clear hg hn
        go_wp2
        exact ⟨by first | rfl | trivial, HG.out.1, .inr ⟨HG.out.2, n1, m1, rfl⟩⟩
    · have HG : Hid (w.grownBy w8 (some A) ∧ R = none) := ⟨HB1.out.2.2.1.trans (H4.out.2.trans hg), by rw [E6.out, hn]; rfl⟩
      clear hg hn
      go_wp2
      exact ⟨by first | rfl | trivial, HG.out.1, .inr ⟨HG.out.2, n1, m1, rfl⟩⟩
  · have H5 : Hid (RdIs A l.tail w2 ∧ W1.grownBy w2 (some A)) := ⟨hr, HW.out.2.trans hg⟩
    have E7 : Hid (R = (needF ⟨#[111, 110]⟩ l.tail).bind fun l1 => (nameF l1).bind fun a => (insideF nameF a.2).map fun b => ({ ofS 2 a.1 with name := b.1 }, b.2)) := by show _ = _; rw [E0.out]; unfold createF; rw [if_pos HS3.out]
    have cxw2 : w2.cell? ⟨w.heap.size, 0, none⟩ = some (.pointer (some ⟨A, 0, none⟩)) := by rw [(HB1.out.1.keep (by have := HB1.out.2.2.2.2; omega) H5.out.2).cell 0]; rfl
    clear hr hg
    go_wp2_with fail
    refine (need_any A l.tail ⟨#[111, 110]⟩ w2 H5.out.1).mono ?_
    rintro _ w27 ⟨hg, ⟨l28, hn, rfl, hr⟩ | ⟨hn, n1, m1, rfl⟩⟩
    · have H29 : Hid (RdIs A l28 w27 ∧ W1.grownBy w27 (some A)) := ⟨hr, H5.out.2.trans hg⟩
      have E30 : Hid (R = (nameF l28).bind fun a => (insideF nameF a.2).map fun b => ({ ofS 2 a.1 with name := b.1 }, b.2)) := by show _ = _; rw [E7.out, hn]; first | rw [Option.bind_some] | rw [Option.map_some]
      have cxw27 : w27.cell? ⟨w.heap.size, 0, none⟩ = some (.pointer (some ⟨A, 0, none⟩)) := by rw [(HB1.out.1.keep (by have := HB1.out.2.2.2.2; omega) H29.out.2).cell 0]; rfl
      clear hg hn hr
      go_wp2_with fail
      refine (name_any A l28 w27 H29.out.1).mono ?_
      rintro _ w31 ⟨hg, ⟨nm33, l32, hn, rfl, hr, hz34⟩ | ⟨hn, n1, m1, rfl⟩⟩
      · have H35 : Hid (RdIs A l32 w31 ∧ W1.grownBy w31 (some A)) := ⟨hr, H29.out.2.trans hg⟩
        have E36 : Hid (R = (insideF nameF l32).map fun b => ({ ofS 2 nm33 with name := b.1 }, b.2)) := by show _ = _; rw [E30.out, hn]; first | rw [Option.bind_some] | rw [Option.map_some]
        have cxw31 : w31.cell? ⟨w.heap.size, 0, none⟩ = some (.pointer (some ⟨A, 0, none⟩)) := by rw [(HB1.out.1.keep (by have := HB1.out.2.2.2.2; omega) H35.out.2).cell 0]; rfl
        clear hg hn hr
        go_wp2_with fail
        refine (of_any 2 nm33 w31).mono ?_
        rintro _ w37 ⟨rfl, hb⟩
        have hkA : Blk w37.heap.size svZ.cells 62 (w37.alloc (.cells #[.int .i64 0, .string ⟨#[]⟩, .string ⟨#[]⟩, .slice none 0 0, .string ⟨#[]⟩, .slice none 0 0, .slice none 0 0, .pointer none, .pointer none, .slice none 0 0, .pointer none, .slice none 0 0, .int .i64 0] 62)) := Blk.new _ _ _
        have HKA : Hid (Blk w37.heap.size svZ.cells 62 (w37.alloc (.cells #[.int .i64 0, .string ⟨#[]⟩, .string ⟨#[]⟩, .slice none 0 0, .string ⟨#[]⟩, .slice none 0 0, .slice none 0 0, .pointer none, .pointer none, .slice none 0 0, .pointer none, .slice none 0 0, .int .i64 0] 62))) := hkA
        obtain ⟨V38, hV38⟩ : ∃ V, (w37.alloc (.cells #[.int .i64 0, .string ⟨#[]⟩, .string ⟨#[]⟩, .slice none 0 0, .string ⟨#[]⟩, .slice none 0 0, .slice none 0 0, .pointer none, .pointer none, .slice none 0 0, .pointer none, .slice none 0 0, .int .i64 0] 62)).setCells w37.heap.size 0 (svOf 2 nm33).cells.toList = V := ⟨_, rfl⟩
        have hgV : w37.grownBy V38 (some A) := by rw [← hV38]; exact grown_sets _ 0 (grown_alloc _ _ _) (Nat.le_refl _)
        have H39 : Hid (SI A w37.heap.size W1 (ofS 2 nm33) l32 V38) := by
          refine ⟨?_, (H35.out.2.trans (grown_of_belowA hb _)).trans hgV, ⟨svOf 2 nm33, ?_, svis_of _ _ _ _⟩, by have := HB1.out.2.2.2; omega, by have h1 := (H35.out.2.trans (grown_of_belowA hb (some A))).size; exact h1⟩
          · rw [← hV38]
            exact RdIs.setsN _ 0 ((H35.out.1.below hb).below ((Below.refl _ _).alloc (Nat.le_refl _) _)) ((H35.out.1.below hb).lt)
          · rw [← hV38]
            exact hkA.stored
        have cxV38 : V38.cell? ⟨w.heap.size, 0, none⟩ = some (.pointer (some ⟨A, 0, none⟩)) := by rw [(HB1.out.1.keep (by have := HB1.out.2.2.2.2; omega) H39.out.gr).cell 0]; rfl
        clear hb hkA hgV
        go_wp2_with (refine wpList_store_mid rfl 62 _ _ rfl _ 0 (svOf 2 nm33).cells rfl rfl (HKA.out.there rfl) (s30 _) (svOf_rows 2 nm33).one ?_; rw [hV38])
        clear HKA
        have HP : Hid (PreN A w37.heap.size w.heap.size W1 (ofS 2 nm33) l32 V38) := ⟨H39.out, HB1.out.1.keep (by have := HB1.out.2.2.2; omega) H39.out.gr, by have := HB1.out.2.2.2; omega⟩
        go_wp2_with fail
        refine (in_ci HP.out).mono ?_
        rintro _ w40 (⟨nm42, l41, hn, rfl, ha⟩ | ⟨hn, ⟨n1, m1, rfl⟩, hg⟩)
        · have H43 : Hid (SI A w37.heap.size W1 { (ofS 2 nm33) with name := nm42 } l41 w40) := ha
          have E44 : Hid (R = some ({ ofS 2 nm33 with name := nm42 }, l41)) := by show _ = _; rw [E36.out, hn]; first | rw [Option.bind_some] | rw [Option.map_some]
          clear hn ha
          obtain ⟨sv, hk, hv⟩ := H43.out.st
          have HK : Hid (Blk w37.heap.size sv.cells 62 w40 ∧ Blk (w.heap.size + 1) svZ.cells 62 w40 ∧ SVIs W1.heap.size sv { (ofS 2 nm33) with name := nm42 } w40) := ⟨hk, HB1.out.2.1.keep (by have := HB1.out.2.2.2; omega) H43.out.gr, hv⟩
          clear hk hv
          go_wp2_with (first | (refine wpList_load_mid rfl 62 _ rfl _ 0 rfl sv.cells.toList _ HK.out.1.range Tryz.underlying62 rfl (s30 sv) ?_) | (refine wpList_store_mid rfl 62 _ _ rfl _ 0 sv.cells rfl rfl (HK.out.2.1.there rfl) (s30 _) (HK.out.2.2.rowsOk).one ?_))
          refine bodyPost_ret (v := .agg sv.cells) (results_c Tryz.results84 _ _ _ rfl (load30 HK.out.2.1.stored)) rfl ?_
          refine ⟨grown_sets _ 0 (HB1.out.2.2.1.trans H43.out.gr) (by omega), .inl ⟨_, _, sv, E44.out, rfl, ?_, RdIs.setsN _ 0 H43.out.rd (by have := HB1.out.2.2.2; omega)⟩⟩
          exact (HK.out.2.2.st (by have := HB1.out.2.2.2; omega) (fr_sets _ 0 HK.out.2.1)).low (by have := HB1.out.2.2.2; omega)
        · have HG : Hid (w.grownBy w40 (some A) ∧ R = none) := ⟨HB1.out.2.2.1.trans hg, by rw [E36.out, hn]; rfl⟩
          clear hg hn
          go_wp2
          exact ⟨by first | rfl | trivial, HG.out.1, .inr ⟨HG.out.2, n1, m1, rfl⟩⟩
      · have HG : Hid (w.grownBy w31 (some A) ∧ R = none) := ⟨HB1.out.2.2.1.trans (H29.out.2.trans hg), by rw [E30.out, hn]; rfl⟩
        clear hg hn
        go_wp2
        exact ⟨by first | rfl | trivial, HG.out.1, .inr ⟨HG.out.2, n1, m1, rfl⟩⟩
    · have HG : Hid (w.grownBy w27 (some A) ∧ R = none) := ⟨HB1.out.2.2.1.trans (H5.out.2.trans hg), by rw [E7.out, hn]; rfl⟩
      clear hg hn
      go_wp2
      exact ⟨by first | rfl | trivial, HG.out.1, .inr ⟨HG.out.2, n1, m1, rfl⟩⟩
end Go.Proofs.YtmabfbffpedfnaaGreatDoor
