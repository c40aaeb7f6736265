/- Part 17 of 30. -/
import Derived.Test.YtmabfbffpedfnaaGreatDoorK16
import Derived.Deep.RegionLaw
import Derived.Deep.AppendLies
namespace Go.Proofs.YtmabfbffpedfnaaGreatDoor
open Go.RowKit

def ToldI (A : Nat) (R : Option ((Int × Ex) × List KT)) (w : World) (e : Ending) (w' : World) : Prop :=
  w.grownBy w' (some A) ∧ ((∃ x l p, R = some (x, l) ∧ e = .returned (.agg #[.int .i64 x.1, .pointer p]) ∧ ExIs (w.heap.size - 1) w' p x.2 ∧ RdIs A l w') ∨ (R = none ∧ Thr e))
def PreI (A x X : Nat) (k : Int) (w0 : World) (l : List KT) (w : World) : Prop := RdIs A l w ∧ w0.grownBy w (some A) ∧ Blk x #[.pointer (some ⟨A, 0, none⟩)] 117 w ∧ Blk X #[.int .i64 k, .pointer none] 146 w ∧ (x ≠ A ∧ w0.heap.size ≤ X ∧ A < w0.heap.size)
def InvI (A X : Nat) (k : Int) (w0 : World) (a : Ex) (l : List KT) (w : World) : Prop := RdIs A l w ∧ w0.grownBy w (some A) ∧ (w0.heap.size ≤ X ∧ A < w0.heap.size) ∧ ∃ p, Blk X #[.int .i64 k, .pointer p] 146 w ∧ ExIs (w0.heap.size - 1) w p a
set_option maxRecDepth 100000 in
set_option maxHeartbeats 4000000 in
theorem item1_any (hE : ESpec Ef 0) (A x X : Nat) (k : Int) (w0 : World) (l : List KT) (w : World) (h : PreI A x X k w0 l w) : Calls Tryz.prog 127 #[.pointer (some ⟨X, 0, none⟩), .pointer (some ⟨x, 0, none⟩)] w fun e w' =>
    (∃ a l2, itemI k l = some (a, l2) ∧ e = .returned (.tuple #[]) ∧ InvI A X k w0 a l2 w') ∨ (itemI k l = none ∧ Thr e ∧ w0.grownBy w' (some A)) := by
  have HE : Hid (ESpec Ef 0) := hE
  have H : Hid (PreI A x X k w0 l w) := h
  have c0 : w.cell? ⟨X, 0, none⟩ = some (.int .i64 k) := by rw [h.2.2.2.1.cell 0]; rfl
  have cx : w.cell? ⟨x, 0, none⟩ = some (.pointer (some ⟨A, 0, none⟩)) := by rw [h.2.2.1.cell 0]; rfl
  obtain ⟨R, hR⟩ : ∃ R, itemI k l = R := ⟨_, rfl⟩
  have HR : Hid (itemI k l = R) := hR
  rw [hR]
  have hXA : X ≠ A := by have h1 := h.2.2.2.2.2.1; have h2 := h.2.2.2.2.2.2; omega
  have hAX : A < X := by have h1 := h.2.2.2.2.2.1; have h2 := h.2.2.2.2.2.2; omega
  clear hE h hR
  by_cases hk1 : k = 1
  · subst hk1
    obtain ⟨b, hb⟩ : ∃ b, isT ⟨#[42]⟩ l = b := ⟨_, rfl⟩
    have HS : Hid (isT ⟨#[42]⟩ l = b) := hb
    clear hb
    go_enter Tryz.func127, Tryz.ntmps127
    go_wp2_with fail
    refine (has_any A l ⟨#[42]⟩ b HS.out w H.out.1).mono ?_
    rintro _ w1 ⟨rfl, hr1, hg1⟩
    have kx := H.out.2.2.1.keep H.out.2.2.2.2.1 hg1
    have H1 : Hid (RdIs A (if b then l.tail else l) w1 ∧ w0.grownBy w1 (some A) ∧ Blk X #[.int .i64 1, .pointer none] 146 w1) := ⟨hr1, H.out.2.1.trans hg1, H.out.2.2.2.1.keep hXA hg1⟩
    have cx1 : w1.cell? ⟨x, 0, none⟩ = some (.pointer (some ⟨A, 0, none⟩)) := by rw [kx.cell 0]; rfl
    clear hr1 hg1 kx c0 cx
    cases b
    · have HR1 : Hid (Ef l = R) := by show _ = _; rw [← HR.out]; unfold itemI; rw [if_neg (by rw [HS.out]; simp)]
      go_wp2_with fail
      refine (HE.out A l w1 H1.out.1).mono ?_
      rintro _ w2 ⟨hg2, ⟨e, l2, p, hs2, rfl, hx2, hr2⟩ | ⟨hs2, n1, m1, rfl⟩⟩
      · have k2 := H1.out.2.2.keep hXA hg2
        have q1 : w2.cell? ⟨X, 1, none⟩ = some (.pointer none) := by rw [k2.cell 1]; rfl
        have f1 := k2.free 1
        have H2 : Hid (R = some (e, l2) ∧ InvI A X 1 w0 e l2 (w2.setCell ⟨X, 1, none⟩ (.pointer p))) := by
          refine ⟨by rw [← HR1.out]; exact hs2, hr2.set hAX 1 _, grown_new (H1.out.2.1.trans hg2) H.out.2.2.2.2.2.1 1 _, H.out.2.2.2.2.2, p, k2.set 1 _, ?_⟩
          exact ExIs.setB k2 (by decide) 1 _ (hx2.mono (by have := H1.out.2.1.size; omega))
        clear hs2 hx2 hr2 hg2 k2
        go_wp2
        go_end0
        exact .inl ⟨_, _, H2.out.1, rfl, H2.out.2⟩
      · have H2 : Hid (R = none ∧ w0.grownBy w2 (some A)) := ⟨by rw [← HR1.out]; exact hs2, H1.out.2.1.trans hg2⟩
        clear hs2 hg2
        go_wp2
        exact ⟨by first | rfl | trivial, .inr ⟨H2.out.1, ⟨n1, m1, rfl⟩, H2.out.2⟩⟩
    · have HR1 : Hid (R = some (.nil, l.tail)) := by show _ = _; rw [← HR.out]; unfold itemI; rw [if_pos ⟨by first | rfl | trivial, HS.out⟩]
      go_wp2
      go_end0
      exact .inl ⟨_, _, HR1.out, rfl, H1.out.1, H1.out.2.1, H.out.2.2.2.2.2, none, H1.out.2.2, rfl⟩
  · have d1 : (k != 1) = true := by simpa using hk1
    have HR1 : Hid (Ef l = R) := by show _ = _; rw [← HR.out]; unfold itemI; rw [if_neg (fun h => hk1 h.1)]
    have H1 : Hid (RdIs A l w ∧ w0.grownBy w (some A) ∧ Blk X #[.int .i64 k, .pointer none] 146 w) := ⟨H.out.1, H.out.2.1, H.out.2.2.2.1⟩
    clear hk1
    go_enter Tryz.func127, Tryz.ntmps127
    go_wp2_with fail
    refine (HE.out A l w H1.out.1).mono ?_
    rintro _ w2 ⟨hg2, ⟨e, l2, p, hs2, rfl, hx2, hr2⟩ | ⟨hs2, n1, m1, rfl⟩⟩
    · have k2 := H1.out.2.2.keep hXA hg2
      have q1 : w2.cell? ⟨X, 1, none⟩ = some (.pointer none) := by rw [k2.cell 1]; rfl
      have f1 := k2.free 1
      have H2 : Hid (R = some (e, l2) ∧ InvI A X k w0 e l2 (w2.setCell ⟨X, 1, none⟩ (.pointer p))) := by
        refine ⟨by rw [← HR1.out]; exact hs2, hr2.set hAX 1 _, grown_new (H1.out.2.1.trans hg2) H.out.2.2.2.2.2.1 1 _, H.out.2.2.2.2.2, p, k2.set 1 _, ?_⟩
        exact ExIs.setB k2 (by decide) 1 _ (hx2.mono (by have := H1.out.2.1.size; omega))
      clear hs2 hx2 hr2 hg2 k2
      go_wp2
      go_end0
      exact .inl ⟨_, _, H2.out.1, rfl, H2.out.2⟩
    · have H2 : Hid (R = none ∧ w0.grownBy w2 (some A)) := ⟨by rw [← HR1.out]; exact hs2, H1.out.2.1.trans hg2⟩
      clear hs2 hg2
      go_wp2
      exact ⟨by first | rfl | trivial, .inr ⟨H2.out.1, ⟨n1, m1, rfl⟩, H2.out.2⟩⟩
theorem inI_any (hE : ESpec Ef 0) (A x X : Nat) (k : Int) (w0 : World) (l : List KT) (w : World) (h : PreI A x X k w0 l w) :
    Calls Tryz.prog 97 #[.pointer (some ⟨A, 0, none⟩), .func (.func 127) #[] #[.pointer (some ⟨X, 0, none⟩), .pointer (some ⟨x, 0, none⟩)]] w fun e w' =>
      (∃ a l2, insideF (itemI k) l = some (a, l2) ∧ e = .returned (.tuple #[]) ∧ InvI A X k w0 a l2 w') ∨ (insideF (itemI k) l = none ∧ Thr e ∧ w0.grownBy w' (some A)) := by
  refine inside_i A _ _ (PreI A x X k w0) (InvI A X k w0) (fun w' => w0.grownBy w' (some A)) (fun l w h => h.1) ?_ (fun a l w h => h.1) ?_ (fun l w w1 h hg => h.2.1.trans hg) (fun a l w w1 h hg => h.2.1.trans hg) (fun l w h => item1_any hE A x X k w0 l w h) l w h
  · intro l l1 w w1 h hr hg _
    exact ⟨hr, h.2.1.trans hg, h.2.2.1.keep h.2.2.2.2.1 hg, h.2.2.2.1.keep (by have h1 := h.2.2.2.2.2.1; have h2 := h.2.2.2.2.2.2; omega) hg, h.2.2.2.2⟩
  · rintro a l l1 w w1 ⟨h1, h2, h3, p, h4, h5⟩ hr hg _
    exact ⟨hr, h2.trans hg, h3, p, h4.keep (by omega) hg, ExIs.grownN (by omega) hg h5⟩
theorem item_agg {l : List KT} {s : ByteArray × Int} (h : aggL.find? (fun s => isT s.1 l) = some s) : itemF l = (insideF (itemI s.2) l.tail).map fun x => ((s.2, x.1), x.2) := by unfold itemF; rw [h]
theorem item_none {l : List KT} (h : aggL.find? (fun s => isT s.1 l) = none) : itemF l = (Ef l).map fun x => ((0, x.1), x.2) := by unfold itemF; rw [h]
set_option maxRecDepth 100000 in
set_option maxHeartbeats 16000000 in
theorem item_any (hE : ESpec Ef 0) (A : Nat) (l : List KT) (w : World) (h : RdIs A l w) : Calls Tryz.prog 111 #[.pointer (some ⟨A, 0, none⟩)] w fun e w' => ToldI A (itemF l) w e w' := by
  have HE : Hid (ESpec Ef 0) := hE
  obtain ⟨W1, hW1⟩ : ∃ W, W = (w.alloc (.cells #[.pointer (some ⟨A, 0, none⟩)] 117)).alloc (.cells #[.int .i64 0, .pointer none] 146) := ⟨_, rfl⟩
  have hb1 : Below w.heap.size w W1 := by rw [hW1]; exact ((Below.refl _ _).alloc (Nat.le_refl _) _).alloc (by simp) _
  have hs1 : W1.heap.size = w.heap.size + 2 := by rw [hW1]; simp
  have hkx : Blk w.heap.size #[.pointer (some ⟨A, 0, none⟩)] 117 W1 := by rw [hW1]; exact (Blk.new _ _ _).below ((Below.refl _ _).alloc (Nat.le_refl _) _)
  have hk1 : Blk (w.heap.size + 1) #[.int .i64 0, .pointer none] 146 W1 := by
    have := Blk.new (w.alloc (.cells #[.pointer (some ⟨A, 0, none⟩)] 117)) #[.int .i64 0, .pointer none] 146
    rw [← hW1, World.size_alloc] at this
    exact this
  have HB1 : Hid (Blk w.heap.size #[.pointer (some ⟨A, 0, none⟩)] 117 W1 ∧ Blk (w.heap.size + 1) #[.int .i64 0, .pointer none] 146 W1 ∧ w.grownBy W1 (some A) ∧ W1.heap.size = w.heap.size + 2) := ⟨hkx, hk1, grown_of_belowA hb1 _, hs1⟩
  obtain ⟨W, hW⟩ : ∃ W, W = W1.alloc (.cells #[.int .i64 0, .pointer none] 146) := ⟨_, rfl⟩
  have hbW : Below W1.heap.size W1 W := by rw [hW]; exact (Below.refl _ _).alloc (Nat.le_refl _) _
  have hA := h.lt
  have HW : Hid (RdIs A l W ∧ W1.grownBy W (some A) ∧ Blk (w.heap.size + 2) #[.int .i64 0, .pointer none] 146 W) := ⟨(h.below hb1).below hbW, grown_of_belowA hbW _, by rw [hW, ← hs1]; exact Blk.new _ _ _⟩
  have HWe : Hid (W = ((w.alloc (.cells #[.pointer (some ⟨A, 0, none⟩)] 117)).alloc (.cells #[.int .i64 0, .pointer none] 146)).alloc (.cells #[.int .i64 0, .pointer none] 146)) := by show _ = _; rw [hW, hW1]
  have cx : W.cell? ⟨w.heap.size, 0, none⟩ = some (.pointer (some ⟨A, 0, none⟩)) := by rw [(hkx.below hbW).cell 0]; rfl
  obtain ⟨q0', hq0⟩ : ∃ q0, w.heap.size - 1 = q0 := ⟨_, rfl⟩
  have HQe : Hid (w.heap.size - 1 = q0') := hq0
  obtain ⟨R, hR⟩ : ∃ R, itemF l = R := ⟨_, rfl⟩
  have HR : Hid (itemF l = R) := hR
  unfold ToldI
  rw [hR, hq0]
  clear h hE hR hq0 hbW hb1 hs1 hkx hk1 hW hW1
  go_enter Tryz.func111, Tryz.ntmps111
  obtain ⟨b0, hb0⟩ : ∃ b, isT ⟨#[99, 111, 117, 110, 116]⟩ l = b := ⟨_, rfl⟩
  have HS0 : Hid (isT ⟨#[99, 111, 117, 110, 116]⟩ l = b0) := hb0
  clear hb0
  go_wp2_with fail
  rw [← HWe.out]
  refine (has_any A l ⟨#[99, 111, 117, 110, 116]⟩ b0 HS0.out W HW.out.1).mono ?_
  rintro _ w1 ⟨rfl, hr0, hg0⟩
  have K0 : Hid (RdIs A (if b0 then l.tail else l) w1 ∧ W1.grownBy w1 (some A) ∧ Blk (w.heap.size + 2) #[.int .i64 0, .pointer none] 146 w1) := ⟨hr0, HW.out.2.1.trans hg0, HW.out.2.2.keep (by omega) hg0⟩
  have cx0 : w1.cell? ⟨w.heap.size, 0, none⟩ = some (.pointer (some ⟨A, 0, none⟩)) := by rw [(HB1.out.1.keep (by omega) K0.out.2.1).cell 0]; rfl
  clear hr0 hg0 cx
  cases b0
  · skip
    obtain ⟨b1, hb1⟩ : ∃ b, isT ⟨#[115, 117, 109]⟩ l = b := ⟨_, rfl⟩
    have HS1 : Hid (isT ⟨#[115, 117, 109]⟩ l = b1) := hb1
    clear hb1
    go_wp2_with fail
    skip
    refine (has_any A l ⟨#[115, 117, 109]⟩ b1 HS1.out w1 K0.out.1).mono ?_
    rintro _ w2 ⟨rfl, hr1, hg1⟩
    have K1 : Hid (RdIs A (if b1 then l.tail else l) w2 ∧ W1.grownBy w2 (some A) ∧ Blk (w.heap.size + 2) #[.int .i64 0, .pointer none] 146 w2) := ⟨hr1, K0.out.2.1.trans hg1, K0.out.2.2.keep (by omega) hg1⟩
    have cx1 : w2.cell? ⟨w.heap.size, 0, none⟩ = some (.pointer (some ⟨A, 0, none⟩)) := by rw [(HB1.out.1.keep (by omega) K1.out.2.1).cell 0]; rfl
    clear hr1 hg1 cx0
    cases b1
    · skip
      obtain ⟨b2, hb2⟩ : ∃ b, isT ⟨#[109, 105, 110]⟩ l = b := ⟨_, rfl⟩
      have HS2 : Hid (isT ⟨#[109, 105, 110]⟩ l = b2) := hb2
      clear hb2
      go_wp2_with fail
      skip
      refine (has_any A l ⟨#[109, 105, 110]⟩ b2 HS2.out w2 K1.out.1).mono ?_
      rintro _ w3 ⟨rfl, hr2, hg2⟩
      have K2 : Hid (RdIs A (if b2 then l.tail else l) w3 ∧ W1.grownBy w3 (some A) ∧ Blk (w.heap.size + 2) #[.int .i64 0, .pointer none] 146 w3) := ⟨hr2, K1.out.2.1.trans hg2, K1.out.2.2.keep (by omega) hg2⟩
      have cx2 : w3.cell? ⟨w.heap.size, 0, none⟩ = some (.pointer (some ⟨A, 0, none⟩)) := by rw [(HB1.out.1.keep (by omega) K2.out.2.1).cell 0]; rfl
      clear hr2 hg2 cx1
      cases b2
      · skip
        obtain ⟨b3, hb3⟩ : ∃ b, isT ⟨#[109, 97, 120]⟩ l = b := ⟨_, rfl⟩
        have HS3 : Hid (isT ⟨#[109, 97, 120]⟩ l = b3) := hb3
        clear hb3
        go_wp2_with fail
        skip
        refine (has_any A l ⟨#[109, 97, 120]⟩ b3 HS3.out w3 K2.out.1).mono ?_
        rintro _ w4 ⟨rfl, hr3, hg3⟩
        have K3 : Hid (RdIs A (if b3 then l.tail else l) w4 ∧ W1.grownBy w4 (some A) ∧ Blk (w.heap.size + 2) #[.int .i64 0, .pointer none] 146 w4) := ⟨hr3, K2.out.2.1.trans hg3, K2.out.2.2.keep (by omega) hg3⟩
        have cx3 : w4.cell? ⟨w.heap.size, 0, none⟩ = some (.pointer (some ⟨A, 0, none⟩)) := by rw [(HB1.out.1.keep (by omega) K3.out.2.1).cell 0]; rfl
        clear hr3 hg3 cx2
        cases b3
        · skip
          have HRp : Hid (R = (Ef l).map fun x => ((0, x.1), x.2)) := by
            show _ = _
            rw [← HR.out]
            exact item_none (by simp [aggL, HS0.out, HS1.out, HS2.out, HS3.out])
          go_wp2_with fail
          refine (HE.out A l w4 K3.out.1).mono ?_
          rintro _ w7 ⟨hg7, ⟨a, l7, p7, hs7, rfl, hx7, hr7⟩ | ⟨hs7, n1, m1, rfl⟩⟩
          · have k0 := HB1.out.2.1.keep (by omega) (K3.out.2.1.trans hg7)
            have a0 : w7.cell? ⟨w.heap.size + 1, 0, none⟩ = some (.int .i64 0) := by rw [k0.cell 0]; rfl
            have a1 : w7.cell? ⟨w.heap.size + 1, 1, none⟩ = some (.pointer none) := by rw [k0.cell 1]; rfl
            have f0 : ∀ i, w7.frozen? ⟨w.heap.size + 1, i, none⟩ = false := fun i => k0.free i
            have HF : Hid (R = some ((0, a), l7) ∧ w.grownBy w7 (some A) ∧ RdIs A l7 w7 ∧ Blk (w.heap.size + 1) #[.int .i64 0, .pointer none] 146 w7 ∧ ExIs q0' w7 p7 a) := ⟨by rw [HRp.out, hs7]; rfl, HB1.out.2.2.1.trans (K3.out.2.1.trans hg7), hr7, k0, hx7.mono (by have h1 := HB1.out.2.2.2; have h2 := HQe.out; have h3 := K3.out.2.1.size; omega)⟩
            clear hs7 hr7 hg7 hx7 k0
            go_wp2
            refine bodyPost_ret (v := .agg #[.int .i64 0, .pointer p7]) (results_c Tryz.results111 _ _ _ rfl ?_) rfl ?_
            · simp [go_sem, a0, a1]
            · have x1 := ExIs.setB HF.out.2.2.2.1 (by decide) 0 (.int .i64 0) HF.out.2.2.2.2
              have x2 := ExIs.setB (HF.out.2.2.2.1.set 0 (.int .i64 0)) (by decide) 1 (.pointer p7) x1
              exact ⟨grown_new (grown_new HF.out.2.1 (by omega) _ _) (by omega) _ _, .inl ⟨_, _, p7, HF.out.1, rfl, x2, (HF.out.2.2.1.set (by omega) _ _).set (by omega) _ _⟩⟩
          · have HG : Hid (w.grownBy w7 (some A) ∧ R = none) := ⟨HB1.out.2.2.1.trans (K3.out.2.1.trans hg7), by rw [HRp.out, hs7]; rfl⟩
            clear hg7 hs7
            go_wp2
            exact ⟨by first | rfl | trivial, HG.out.1, .inr ⟨HG.out.2, n1, m1, rfl⟩⟩
        · skip
          have q0 : w4.cell? ⟨w.heap.size + 2, 0, none⟩ = some (.int .i64 0) := by rw [K3.out.2.2.cell 0]; rfl
          have g0 := K3.out.2.2.free 0
          obtain ⟨wp, hwp⟩ : ∃ wp, w4.setCell ⟨w.heap.size + 2, 0, none⟩ (.int .i64 4) = wp := ⟨_, rfl⟩
          have HP : Hid (PreI A w.heap.size (w.heap.size + 2) 4 W1 l.tail wp) := by
            rw [← hwp]
            exact ⟨K3.out.1.set (by omega) 0 _, grown_new K3.out.2.1 (by rw [HB1.out.2.2.2]; exact Nat.le_refl _) 0 _, (HB1.out.1.keep (by omega) K3.out.2.1).other (by omega) 0 _, K3.out.2.2.set 0 _, by omega, by rw [HB1.out.2.2.2]; exact Nat.le_refl _, by rw [HB1.out.2.2.2]; omega⟩
          have cxp : wp.cell? ⟨w.heap.size, 0, none⟩ = some (.pointer (some ⟨A, 0, none⟩)) := by rw [HP.out.2.2.1.cell 0]; rfl
          have HRp : Hid (R = (insideF (itemI 4) l.tail).map fun x => ((4, x.1), x.2)) := by
            show _ = _
            rw [← HR.out]
            exact item_agg (s := (⟨#[109, 97, 120]⟩, 4)) (by simp [aggL, HS0.out, HS1.out, HS2.out, HS3.out])
          go_wp2_with fail
          refine (inI_any HE.out A w.heap.size (w.heap.size + 2) 4 W1 l.tail wp HP.out).mono ?_
          rintro _ w7 (⟨a, l7, hs7, rfl, hr7, hg7, _, p7, hk7, hx7⟩ | ⟨hs7, ⟨n1, m1, rfl⟩, hg7⟩)
          · have k0 := HB1.out.2.1.keep (by omega) hg7
            have a0 : w7.cell? ⟨w.heap.size + 1, 0, none⟩ = some (.int .i64 0) := by rw [k0.cell 0]; rfl
            have a1 : w7.cell? ⟨w.heap.size + 1, 1, none⟩ = some (.pointer none) := by rw [k0.cell 1]; rfl
            have d0 : w7.cell? ⟨w.heap.size + 2, 0, none⟩ = some (.int .i64 4) := by rw [hk7.cell 0]; rfl
            have d1 : w7.cell? ⟨w.heap.size + 2, 1, none⟩ = some (.pointer p7) := by rw [hk7.cell 1]; rfl
            have f0 : ∀ i, w7.frozen? ⟨w.heap.size + 1, i, none⟩ = false := fun i => k0.free i
            have HF : Hid (R = some ((4, a), l7) ∧ w.grownBy w7 (some A) ∧ RdIs A l7 w7 ∧ Blk (w.heap.size + 1) #[.int .i64 0, .pointer none] 146 w7 ∧ ExIs q0' w7 p7 a) := ⟨by rw [HRp.out, hs7]; rfl, HB1.out.2.2.1.trans hg7, hr7, k0, hx7.mono (by have h1 := HB1.out.2.2.2; have h2 := HQe.out; omega)⟩
            clear hs7 hr7 hg7 hk7 hx7 k0
            go_wp2
            refine bodyPost_ret (v := .agg #[.int .i64 4, .pointer p7]) (results_c Tryz.results111 _ _ _ rfl ?_) rfl ?_
            · simp [go_sem, a0, a1]
            · have x1 := ExIs.setB HF.out.2.2.2.1 (by decide) 0 (.int .i64 4) HF.out.2.2.2.2
              have x2 := ExIs.setB (HF.out.2.2.2.1.set 0 (.int .i64 4)) (by decide) 1 (.pointer p7) x1
              exact ⟨grown_new (grown_new HF.out.2.1 (by omega) _ _) (by omega) _ _, .inl ⟨_, _, p7, HF.out.1, rfl, x2, (HF.out.2.2.1.set (by omega) _ _).set (by omega) _ _⟩⟩
          · have HG : Hid (w.grownBy w7 (some A) ∧ R = none) := ⟨HB1.out.2.2.1.trans hg7, by rw [HRp.out, hs7]; rfl⟩
            clear hg7 hs7
            go_wp2
            exact ⟨by first | rfl | trivial, HG.out.1, .inr ⟨HG.out.2, n1, m1, rfl⟩⟩
      · skip
        have q0 : w3.cell? ⟨w.heap.size + 2, 0, none⟩ = some (.int .i64 0) := by rw [K2.out.2.2.cell 0]; rfl
        have g0 := K2.out.2.2.free 0
        obtain ⟨wp, hwp⟩ : ∃ wp, w3.setCell ⟨w.heap.size + 2, 0, none⟩ (.int .i64 3) = wp := ⟨_, rfl⟩
        have HP : Hid (PreI A w.heap.size (w.heap.size + 2) 3 W1 l.tail wp) := by
          rw [← hwp]
          exact ⟨K2.out.1.set (by omega) 0 _, grown_new K2.out.2.1 (by rw [HB1.out.2.2.2]; exact Nat.le_refl _) 0 _, (HB1.out.1.keep (by omega) K2.out.2.1).other (by omega) 0 _, K2.out.2.2.set 0 _, by omega, by rw [HB1.out.2.2.2]; exact Nat.le_refl _, by rw [HB1.out.2.2.2]; omega⟩
        have cxp : wp.cell? ⟨w.heap.size, 0, none⟩ = some (.pointer (some ⟨A, 0, none⟩)) := by rw [HP.out.2.2.1.cell 0]; rfl
        have HRp : Hid (R = (insideF (itemI 3) l.tail).map fun x => ((3, x.1), x.2)) := by
          show _ = _
          rw [← HR.out]
          exact item_agg (s := (⟨#[109, 105, 110]⟩, 3)) (by simp [aggL, HS0.out, HS1.out, HS2.out])
        go_wp2_with fail
        refine (inI_any HE.out A w.heap.size (w.heap.size + 2) 3 W1 l.tail wp HP.out).mono ?_
        rintro _ w7 (⟨a, l7, hs7, rfl, hr7, hg7, _, p7, hk7, hx7⟩ | ⟨hs7, ⟨n1, m1, rfl⟩, hg7⟩)
        · have k0 := HB1.out.2.1.keep (by omega) hg7
          have a0 : w7.cell? ⟨w.heap.size + 1, 0, none⟩ = some (.int .i64 0) := by rw [k0.cell 0]; rfl
          have a1 : w7.cell? ⟨w.heap.size + 1, 1, none⟩ = some (.pointer none) := by rw [k0.cell 1]; rfl
          have d0 : w7.cell? ⟨w.heap.size + 2, 0, none⟩ = some (.int .i64 3) := by rw [hk7.cell 0]; rfl
          have d1 : w7.cell? ⟨w.heap.size + 2, 1, none⟩ = some (.pointer p7) := by rw [hk7.cell 1]; rfl
          have f0 : ∀ i, w7.frozen? ⟨w.heap.size + 1, i, none⟩ = false := fun i => k0.free i
          have HF : Hid (R = some ((3, a), l7) ∧ w.grownBy w7 (some A) ∧ RdIs A l7 w7 ∧ Blk (w.heap.size + 1) #[.int .i64 0, .pointer none] 146 w7 ∧ ExIs q0' w7 p7 a) := ⟨by rw [HRp.out, hs7]; rfl, HB1.out.2.2.1.trans hg7, hr7, k0, hx7.mono (by have h1 := HB1.out.2.2.2; have h2 := HQe.out; omega)⟩
          clear hs7 hr7 hg7 hk7 hx7 k0
          go_wp2
          refine bodyPost_ret (v := .agg #[.int .i64 3, .pointer p7]) (results_c Tryz.results111 _ _ _ rfl ?_) rfl ?_
          · simp [go_sem, a0, a1]
          · have x1 := ExIs.setB HF.out.2.2.2.1 (by decide) 0 (.int .i64 3) HF.out.2.2.2.2
            have x2 := ExIs.setB (HF.out.2.2.2.1.set 0 (.int .i64 3)) (by decide) 1 (.pointer p7) x1
            exact ⟨grown_new (grown_new HF.out.2.1 (by omega) _ _) (by omega) _ _, .inl ⟨_, _, p7, HF.out.1, rfl, x2, (HF.out.2.2.1.set (by omega) _ _).set (by omega) _ _⟩⟩
        · have HG : Hid (w.grownBy w7 (some A) ∧ R = none) := ⟨HB1.out.2.2.1.trans hg7, by rw [HRp.out, hs7]; rfl⟩
          clear hg7 hs7
          go_wp2
          exact ⟨by first | rfl | trivial, HG.out.1, .inr ⟨HG.out.2, n1, m1, rfl⟩⟩
    · skip
      have q0 : w2.cell? ⟨w.heap.size + 2, 0, none⟩ = some (.int .i64 0) := by rw [K1.out.2.2.cell 0]; rfl
      have g0 := K1.out.2.2.free 0
      obtain ⟨wp, hwp⟩ : ∃ wp, w2.setCell ⟨w.heap.size + 2, 0, none⟩ (.int .i64 2) = wp := ⟨_, rfl⟩
      have HP : Hid (PreI A w.heap.size (w.heap.size + 2) 2 W1 l.tail wp) := by
        rw [← hwp]
        exact ⟨K1.out.1.set (by omega) 0 _, grown_new K1.out.2.1 (by rw [HB1.out.2.2.2]; exact Nat.le_refl _) 0 _, (HB1.out.1.keep (by omega) K1.out.2.1).other (by omega) 0 _, K1.out.2.2.set 0 _, by omega, by rw [HB1.out.2.2.2]; exact Nat.le_refl _, by rw [HB1.out.2.2.2]; omega⟩
      have cxp : wp.cell? ⟨w.heap.size, 0, none⟩ = some (.pointer (some ⟨A, 0, none⟩)) := by rw [HP.out.2.2.1.cell 0]; rfl
      have HRp : Hid (R = (insideF (itemI 2) l.tail).map fun x => ((2, x.1), x.2)) := by
        show _ = _
        rw [← HR.out]
        exact item_agg (s := (⟨#[115, 117, 109]⟩, 2)) (by simp [aggL, HS0.out, HS1.out])
      go_wp2_with fail
      refine (inI_any HE.out A w.heap.size (w.heap.size + 2) 2 W1 l.tail wp HP.out).mono ?_
      rintro _ w7 (⟨a, l7, hs7, rfl, hr7, hg7, _, p7, hk7, hx7⟩ | ⟨hs7, ⟨n1, m1, rfl⟩, hg7⟩)
      · have k0 := HB1.out.2.1.keep (by omega) hg7
        have a0 : w7.cell? ⟨w.heap.size + 1, 0, none⟩ = some (.int .i64 0) := by rw [k0.cell 0]; rfl
        have a1 : w7.cell? ⟨w.heap.size + 1, 1, none⟩ = some (.pointer none) := by rw [k0.cell 1]; rfl
        have d0 : w7.cell? ⟨w.heap.size + 2, 0, none⟩ = some (.int .i64 2) := by rw [hk7.cell 0]; rfl
        have d1 : w7.cell? ⟨w.heap.size + 2, 1, none⟩ = some (.pointer p7) := by rw [hk7.cell 1]; rfl
        have f0 : ∀ i, w7.frozen? ⟨w.heap.size + 1, i, none⟩ = false := fun i => k0.free i
        have HF : Hid (R = some ((2, a), l7) ∧ w.grownBy w7 (some A) ∧ RdIs A l7 w7 ∧ Blk (w.heap.size + 1) #[.int .i64 0, .pointer none] 146 w7 ∧ ExIs q0' w7 p7 a) := ⟨by rw [HRp.out, hs7]; rfl, HB1.out.2.2.1.trans hg7, hr7, k0, hx7.mono (by have h1 := HB1.out.2.2.2; have h2 := HQe.out; omega)⟩
        clear hs7 hr7 hg7 hk7 hx7 k0
        go_wp2
        refine bodyPost_ret (v := .agg #[.int .i64 2, .pointer p7]) (results_c Tryz.results111 _ _ _ rfl ?_) rfl ?_
        · simp [go_sem, a0, a1]
        · have x1 := ExIs.setB HF.out.2.2.2.1 (by decide) 0 (.int .i64 2) HF.out.2.2.2.2
          have x2 := ExIs.setB (HF.out.2.2.2.1.set 0 (.int .i64 2)) (by decide) 1 (.pointer p7) x1
          exact ⟨grown_new (grown_new HF.out.2.1 (by omega) _ _) (by omega) _ _, .inl ⟨_, _, p7, HF.out.1, rfl, x2, (HF.out.2.2.1.set (by omega) _ _).set (by omega) _ _⟩⟩
      · have HG : Hid (w.grownBy w7 (some A) ∧ R = none) := ⟨HB1.out.2.2.1.trans hg7, by rw [HRp.out, hs7]; rfl⟩
        clear hg7 hs7
        go_wp2
        exact ⟨by first | rfl | trivial, HG.out.1, .inr ⟨HG.out.2, n1, m1, rfl⟩⟩
  · skip
    have q0 : w1.cell? ⟨w.heap.size + 2, 0, none⟩ = some (.int .i64 0) := by rw [K0.out.2.2.cell 0]; rfl
    have g0 := K0.out.2.2.free 0
    obtain ⟨wp, hwp⟩ : ∃ wp, w1.setCell ⟨w.heap.size + 2, 0, none⟩ (.int .i64 1) = wp := ⟨_, rfl⟩
    have HP : Hid (PreI A w.heap.size (w.heap.size + 2) 1 W1 l.tail wp) := by
      rw [← hwp]
      exact ⟨K0.out.1.set (by omega) 0 _, grown_new K0.out.2.1 (by rw [HB1.out.2.2.2]; exact Nat.le_refl _) 0 _, (HB1.out.1.keep (by omega) K0.out.2.1).other (by omega) 0 _, K0.out.2.2.set 0 _, by omega, by rw [HB1.out.2.2.2]; exact Nat.le_refl _, by rw [HB1.out.2.2.2]; omega⟩
    have cxp : wp.cell? ⟨w.heap.size, 0, none⟩ = some (.pointer (some ⟨A, 0, none⟩)) := by rw [HP.out.2.2.1.cell 0]; rfl
    have HRp : Hid (R = (insideF (itemI 1) l.tail).map fun x => ((1, x.1), x.2)) := by
      show _ = _
      rw [← HR.out]
      exact item_agg (s := (⟨#[99, 111, 117, 110, 116]⟩, 1)) (by simp [aggL, HS0.out])
    go_wp2_with fail
    refine (inI_any HE.out A w.heap.size (w.heap.size + 2) 1 W1 l.tail wp HP.out).mono ?_
    rintro _ w7 (⟨a, l7, hs7, rfl, hr7, hg7, _, p7, hk7, hx7⟩ | ⟨hs7, ⟨n1, m1, rfl⟩, hg7⟩)
    · have k0 := HB1.out.2.1.keep (by omega) hg7
      have a0 : w7.cell? ⟨w.heap.size + 1, 0, none⟩ = some (.int .i64 0) := by rw [k0.cell 0]; rfl
      have a1 : w7.cell? ⟨w.heap.size + 1, 1, none⟩ = some (.pointer none) := by rw [k0.cell 1]; rfl
      have d0 : w7.cell? ⟨w.heap.size + 2, 0, none⟩ = some (.int .i64 1) := by rw [hk7.cell 0]; rfl
      have d1 : w7.cell? ⟨w.heap.size + 2, 1, none⟩ = some (.pointer p7) := by rw [hk7.cell 1]; rfl
      have f0 : ∀ i, w7.frozen? ⟨w.heap.size + 1, i, none⟩ = false := fun i => k0.free i
      have HF : Hid (R = some ((1, a), l7) ∧ w.grownBy w7 (some A) ∧ RdIs A l7 w7 ∧ Blk (w.heap.size + 1) #[.int .i64 0, .pointer none] 146 w7 ∧ ExIs q0' w7 p7 a) := ⟨by rw [HRp.out, hs7]; rfl, HB1.out.2.2.1.trans hg7, hr7, k0, hx7.mono (by have h1 := HB1.out.2.2.2; have h2 := HQe.out; omega)⟩
      clear hs7 hr7 hg7 hk7 hx7 k0
      go_wp2
      refine bodyPost_ret (v := .agg #[.int .i64 1, .pointer p7]) (results_c Tryz.results111 _ _ _ rfl ?_) rfl ?_
      · simp [go_sem, a0, a1]
      · have x1 := ExIs.setB HF.out.2.2.2.1 (by decide) 0 (.int .i64 1) HF.out.2.2.2.2
        have x2 := ExIs.setB (HF.out.2.2.2.1.set 0 (.int .i64 1)) (by decide) 1 (.pointer p7) x1
        exact ⟨grown_new (grown_new HF.out.2.1 (by omega) _ _) (by omega) _ _, .inl ⟨_, _, p7, HF.out.1, rfl, x2, (HF.out.2.2.1.set (by omega) _ _).set (by omega) _ _⟩⟩
    · have HG : Hid (w.grownBy w7 (some A) ∧ R = none) := ⟨HB1.out.2.2.1.trans hg7, by rw [HRp.out, hs7]; rfl⟩
      clear hg7 hs7
      go_wp2
      exact ⟨by first | rfl | trivial, HG.out.1, .inr ⟨HG.out.2, n1, m1, rfl⟩⟩
end Go.Proofs.YtmabfbffpedfnaaGreatDoor
namespace Go.Proofs.YtmabfbffpedfnaaGreatDoor
open Go.RowKit

set_option maxRecDepth 100000 in
set_option maxHeartbeats 64000000 in
theorem cl_si (hE : ESpec Ef 0) {A S x : Nat} {w0 : World} {sv : SV} {J : World → Prop} (hJ : StaysJ A 146 62 J) {L : List (Int × Ex)} {l : List KT} {w : World} (h : Acc 300 A S x w0 (fun v => ({ sv with items := v } : SV).cells) 62 146 2 (EI (w0.heap.size - 1)) J L l w) :
    Calls Tryz.prog 110 #[.pointer (some ⟨S, 0, none⟩), .pointer (some ⟨x, 0, none⟩)] w fun e w' => (∃ L2 l2, oneOf itemF L l = some (L2, l2) ∧ e = .returned (.tuple #[]) ∧ Acc 301 A S x w0 (fun v => ({ sv with items := v } : SV).cells) 62 146 2 (EI (w0.heap.size - 1)) J L2 l2 w') ∨ (oneOf itemF L l = none ∧ Thr e ∧ w0.grownBy w' (some A)) := by
  obtain ⟨i0, hi, hz0, hz1, hz2⟩ := info_parts infoItem
  have HE : Hid (ESpec Ef 0) := hE
  have H : Hid (Acc 300 A S x w0 (fun v => ({ sv with items := v } : SV).cells) 62 146 2 (EI (w0.heap.size - 1)) J L l w) := h
  have HJ : Hid (StaysJ A 146 62 J) := hJ
  obtain ⟨v, hst, cs, hcs, hown⟩ := h.st
  obtain ⟨a4, c4, rfl⟩ := own_slice hown
  have hcnt := h.cnt
  have hLr : L.length ≤ 300 := by omega
  have hlo := h.lo
  have hS0 := h.S0
  have HD : Hid (RdIs A l w.drew) := h.rd.below (Below.refl _ _).drew
  have HC : Hid (∀ wx, Fr (fun k o => k = A ∨ ∃ c fz, o = .cells c 146 fz) w.drew wx → wx.cell? ⟨S, 9, none⟩ = some (.slice a4 L.length c4) ∧ wx.frozen? ⟨S, 9, none⟩ = false ∧ wx.cell? ⟨x, 0, none⟩ = some (.pointer (some ⟨A, 0, none⟩)) ∧ w0.heap.size ≤ wx.heap.size) := fun wx hf => by
    have h1 := (hst.below (Below.refl _ _).drew).fr hf (by
      rintro (e | ⟨c, fz, e⟩)
      · omega
      · cases e)
    have h2 := (h.hx.below (Below.refl _ _).drew).fr hf (by
      rintro (e | ⟨c, fz, e⟩)
      · exact h.nx e
      · cases e)
    exact ⟨by rw [h1.cell 9]; rfl, h1.free 9, by rw [h2.cell 0]; rfl, by have := h1.lt; omega⟩
  have HFr : Hid (Fr (fun k o => k = A ∨ ∃ c fz, o = .cells c 146 fz) w.drew w.drew) := Fr.refl _ _
  have HOw : Hid (w.drew.ownsRow w0.heap.size 146 2 (.slice a4 L.length c4) L.length cs.flatten) := own_below hown (Below.refl _ _).drew
  have HKeep : Hid (All2 ((EI (w0.heap.size - 1)) w) L cs ∧ Blk S ((fun v => ({ sv with items := v } : SV).cells) (.slice a4 L.length c4)) 62 w ∧ w.ownsRow w0.heap.size 146 2 (.slice a4 L.length c4) L.length cs.flatten) := ⟨hcs, hst, hown⟩
  skip
  clear h hE hJ hst hcs hown
  obtain ⟨cS, fS, cX, lS⟩ := HC.out _ HFr.out
  cases hF : itemF l with
  | none =>
    have HR : Hid (oneOf itemF L l = none) := by show oneOf itemF L l = none; unfold oneOf; rw [hF]; rfl
    have HFn : Hid (itemF l = none) := hF
    clear hF
    go_enter Tryz.func110, Tryz.ntmps110
    go_wp2_with fail
    refine wp_region_held_drew (S := fun w' => w'.cell? ⟨S, 9, none⟩ = some (.slice a4 L.length c4) ∧ w'.cell? ⟨x, 0, none⟩ = some (.pointer (some ⟨A, 0, none⟩))) (by kernel_rfl) ⟨cS, cX⟩ (fun hHeld => ?_)
    refine wpAnyH_take (i := 0) (oi := { dst := some 2, op := Op.fieldAddr 62 (Operand.tmp 0) 9, type := 0, pos := "statement.go:131", after := #[], guard := none }) (v := (.pointer (some ⟨S, 9, none⟩))) rfl (by kernel_rfl) (by kernel_rfl) (by kernel_rfl) (fun _ _ _ h => h) (Or.inl ⟨by rfl, fun w' hSw => ?_⟩) hHeld ?_
    · (try dsimp only at hSw)
      go_simp
    simp only [Act.put, List.setIfInBounds_toArray, List.set_cons_zero, List.set_cons_succ]
    refine wpAnyH_take (i := 1) (oi := { dst := some 3, op := Op.load 59 (Operand.tmp 2), type := 59, pos := "statement.go:131", after := #[{ on := 0, ground := Ground.data }], guard := none }) (v := (.slice a4 L.length c4)) rfl (by kernel_rfl) (by kernel_rfl) (by kernel_rfl) (fun _ _ _ h => h) (Or.inl ⟨by rfl, fun w' hSw => ?_⟩) hHeld ?_
    · (try dsimp only at hSw)
      go_simp
    simp only [Act.put, List.setIfInBounds_toArray, List.set_cons_zero, List.set_cons_succ]
    refine wpAnyH_take (i := 2) (oi := { dst := some 4, op := Op.load 117 (Operand.tmp 1), type := 117, pos := "statement.go:131", after := #[], guard := none }) (v := (.pointer (some ⟨A, 0, none⟩))) rfl (by kernel_rfl) (by kernel_rfl) (by kernel_rfl) (fun _ _ _ h => h) (Or.inl ⟨by rfl, fun w' hSw => ?_⟩) hHeld ?_
    · (try dsimp only at hSw)
      go_simp
    simp only [Act.put, List.setIfInBounds_toArray, List.set_cons_zero, List.set_cons_succ]
    refine wpAnyH_ready (rs := [3]) (by kernel_rfl) (by simp) ?_
    refine AllReadyH.cons (o := { dst := some 5, op := Op.call { callee := Callee.value (Operand.func 111), args := #[Operand.tmp 4], argTypes := #[117] }, type := 146, pos := "statement.go:131", after := #[{ on := 2, ground := Ground.data }], guard := none }) rfl (fun K hK => ?_) AllReadyH.nil
    clear hHeld
    go_simp
    refine (item_any HE.out A l _ HD.out).mono ?_
    rw [HFn.out]
    rintro _ w10 ⟨hg2, ⟨a, l2, p, hs2, rfl, hx2, hr2⟩ | ⟨hs2, n9, m9, rfl⟩⟩
    · cases hs2
    · have HG : Hid (w0.grownBy w10 (some A)) := (H.out.gr.trans (grown_drew _ _)).trans hg2
      refine (show _ ∧ _ from ⟨?_, .inr ⟨HR.out, ⟨n9, m9, rfl⟩, HG.out⟩⟩)
      first | rfl | trivial
  | some r =>
    obtain ⟨a', l'⟩ := r
    have HR : Hid (oneOf itemF L l = some (L ++ [a'], l')) := by show oneOf itemF L l = _; unfold oneOf; rw [hF]; rfl
    have HRl : Hid (l'.length ≤ l.length) := (itemF_reads l H.out.rd.ok _ hF).2
    have HFs : Hid (itemF l = some (a', l')) := hF
    clear hF
    go_enter Tryz.func110, Tryz.ntmps110
    go_wp2_with fail
    go_region_law (first
      | (refine step_append_lies _ rfl (.tmp 3) (.tmp 6) 59 rfl w0.heap.size 146 i0 (.agg #[.int .i64 0, .pointer none]) 2 16 Tryz.underlying59 hi hz0 hz1 hz2 rfl (by decide) (.slice a4 L.length c4) L.length cs.flatten (by simp [Act.eval]) (HOw.out.alloc _) ⟨w10.heap.size, 0, none⟩ 1 1 [.int .i64 a'.1, .pointer p] (by simp [Act.eval]) rfl (news_two w10 _ _ _) (by intro u hu; simp at hu; rcases hu with rfl | rfl <;> rfl) (by decide) (by simp [maxLen]; omega) (by omega) (by simp; omega) _ rfl ?_; intro g3 cap3 w3 ho3 hg3 _ _; have HO3 : Hid (w3.ownsRow w0.heap.size 146 2 (.slice (some ⟨g3, 0, none⟩) (L.length + 1) cap3) (L.length + 1) (cs.flatten ++ [.int .i64 a'.1, .pointer p])) := ho3; have HG3 : Hid ((w10.alloc (.cells #[.int .i64 a'.1, .pointer p] 146)).grownBy w3 (Value.slice a4 L.length c4).ownBlock) := hg3; have HFr : Hid (Fr (fun k o => k = A ∨ ∃ c fz, o = .cells c 146 fz) w.drew w3) := (HFr.out.trans (Fr.of_below ((Below.refl _ _).alloc (Nat.le_refl _) _))).trans (Fr.row (fun _ _ _ => .inr ⟨_, _, rfl⟩) (HOw.out.alloc _) hg3); obtain ⟨cSd, fSd, cXd, lSd⟩ := HC.out _ HFr.out; clear ho3 hg3)
      | (go_wp2_with (go_at_call 111; refine Calls.mono (item_any HE.out A l _ HD.out) ?_; rw [HFs.out]; rintro _ w10 ⟨hg2, hc2⟩; obtain ⟨a, l2, p, hs2, rfl, hx2, hr2⟩ := hc2.resolve_right (fun h => by cases h.1); obtain ⟨rfl, rfl⟩ := Prod.mk.inj (Option.some.inj hs2); have HG : Hid (w.drew.grownBy w10 (some A)) := hg2; have HFr : Hid (Fr (fun k o => k = A ∨ ∃ c fz, o = .cells c 146 fz) w.drew w10) := Fr.of_grown (fun _ => .inl rfl) hg2; have HX2 : Hid (ExIs (w0.heap.size - 1) w10 p a'.2) := hx2.mono (by have h1 := H.out.gr.size; have h2 := (Below.refl w.heap.size w).drew.size; omega); have HR2 : Hid (RdIs A l' w10) := hr2; have HOw : Hid (w10.ownsRow w0.heap.size 146 2 (.slice a4 L.length c4) L.length cs.flatten) := own_grownN hlo HOw.out hg2; obtain ⟨cSb, fSb, cXb, lSb⟩ := HC.out _ HFr.out; obtain ⟨cSc, fSc, cXc, lSc⟩ := HC.out (w10.alloc (.cells #[.int .i64 a'.1, .pointer p] 146)) (HFr.out.trans (Fr.of_below ((Below.refl _ _).alloc (Nat.le_refl _) _))); clear hx2 hr2 hg2 hs2)))
    all_goals
      go_end0
      exact .inl ⟨_, _, HR.out, rfl, Acc.snoc H.out (EI_stays (by have := H.out.lo; omega) (by decide)) HJ.out (by decide) HKeep.out.2.1 HKeep.out.1 HKeep.out.2.2 ((grown_drew _ _).trans HG.out) HR2.out ⟨p, rfl, HX2.out⟩ HG3.out HO3.out rfl HRl.out⟩
end Go.Proofs.YtmabfbffpedfnaaGreatDoor
namespace Go.Proofs.YtmabfbffpedfnaaGreatDoor
open Go.RowKit

theorem li_si (hE : ESpec Ef 0) {A S x : Nat} {w0 : World} {sv : SV} {J : World → Prop} (hJ : StaysJ A 146 62 J) {L : List (Int × Ex)} {l : List KT} {w : World} (h : Acc 300 A S x w0 (fun v => ({ sv with items := v } : SV).cells) 62 146 2 (EI (w0.heap.size - 1)) J L l w) :
    Calls Tryz.prog 100 #[.pointer (some ⟨A, 0, none⟩), .func (.func 110) #[] #[.pointer (some ⟨S, 0, none⟩), .pointer (some ⟨x, 0, none⟩)]] w fun e w' =>
      (∃ L2 l2, listS (oneOf itemF) L l = some (L2, l2) ∧ e = .returned (.tuple #[]) ∧ Acc 301 A S x w0 (fun v => ({ sv with items := v } : SV).cells) 62 146 2 (EI (w0.heap.size - 1)) J L2 l2 w') ∨ (listS (oneOf itemF) L l = none ∧ Thr e ∧ w0.grownBy w' (some A)) := by
  have hs : Stays A 146 62 (EI (w0.heap.size - 1)) := (EI_stays (by have := h.lo; omega) (by decide))
  refine list_si (fun s => oneOf_reads itemF_reads s) A _ _ (fun L l w => Acc 300 A S x w0 (fun v => ({ sv with items := v } : SV).cells) 62 146 2 (EI (w0.heap.size - 1)) J L l w) (fun L l w => Acc 301 A S x w0 (fun v => ({ sv with items := v } : SV).cells) 62 146 2 (EI (w0.heap.size - 1)) J L l w) (fun w' => w0.grownBy w' (some A)) (fun _ _ _ h => h.rd) ?_ ?_ (fun s l w h => cl_si hE hJ h) L l w h h.rd.ok
  · intro L l w w1 h hr hg
    exact h.grown hs hJ hr hg h.cnt
  · intro L l w w1 h hr hg hl
    exact h.grown hs hJ hr hg (by have := h.cnt; omega)
end Go.Proofs.YtmabfbffpedfnaaGreatDoor
namespace Go.Proofs.YtmabfbffpedfnaaGreatDoor
open Go.RowKit

def ToldK (A : Nat) (R : Option ((Ex × Bool) × List KT)) (w : World) (e : Ending) (w' : World) : Prop :=
  w.grownBy w' (some A) ∧ ((∃ x l p, R = some (x, l) ∧ e = .returned (.agg #[.pointer p, .bool x.2]) ∧ ExIs (w.heap.size - 1) w' p x.1 ∧ RdIs A l w') ∨ (R = none ∧ Thr e))
set_option maxRecDepth 100000 in
set_option maxHeartbeats 16000000 in
theorem rank_any (hE : ESpec Ef 0) (A : Nat) (l : List KT) (w : World) (h : RdIs A l w) : Calls Tryz.prog 113 #[.pointer (some ⟨A, 0, none⟩)] w fun e w' => ToldK A (rankF l) w e w' := by
  have HE : Hid (ESpec Ef 0) := hE
  obtain ⟨W, hW⟩ : ∃ W, W = (w.alloc (.cells #[.pointer none, .bool false] 149)).alloc (.cells #[.pointer none, .bool false] 149) := ⟨_, rfl⟩
  have hbW : Below w.heap.size w W := by rw [hW]; exact ((Below.refl _ _).alloc (Nat.le_refl _) _).alloc (by simp) _
  have hk0 : Blk w.heap.size #[.pointer none, .bool false] 149 W := by rw [hW]; exact (Blk.new _ _ _).below ((Below.refl _ _).alloc (Nat.le_refl _) _)
  have hk1 : Blk (w.heap.size + 1) #[.pointer none, .bool false] 149 W := by
    have := Blk.new (w.alloc (.cells #[.pointer none, .bool false] 149)) #[.pointer none, .bool false] 149
    rw [← hW, World.size_alloc] at this
    exact this
  have hA := h.lt
  have HW : Hid (RdIs A l W ∧ w.grownBy W (some A) ∧ Blk w.heap.size #[.pointer none, .bool false] 149 W ∧ Blk (w.heap.size + 1) #[.pointer none, .bool false] 149 W) := ⟨h.below hbW, grown_of_belowA hbW _, hk0, hk1⟩
  obtain ⟨q0, hq0⟩ : ∃ q0, w.heap.size - 1 = q0 := ⟨_, rfl⟩
  have HQ : Hid (A ≤ q0 ∧ q0 < w.heap.size) := ⟨by omega, by omega⟩
  have HQe : Hid (w.heap.size - 1 = q0) := hq0
  obtain ⟨R, hR⟩ : ∃ R, rankF l = R := ⟨_, rfl⟩
  have HR : Hid ((rank1 l).map (fun x => ((x.1, (rank2 x.2).1), (rank2 x.2).2)) = R) := hR
  unfold ToldK
  rw [hR, hq0]
  obtain ⟨b, hb⟩ : ∃ b, isT ⟨#[114, 97, 110, 107]⟩ l = b := ⟨_, rfl⟩
  have HS : Hid (isT ⟨#[114, 97, 110, 107]⟩ l = b) := hb
  have HF : Hid (rank1 l = if b then some (.nil, l.tail) else Ef l) := by show rank1 l = _; unfold rank1; rw [hb]
  have HWe : Hid (W = (w.alloc (.cells #[.pointer none, .bool false] 149)).alloc (.cells #[.pointer none, .bool false] 149)) := hW
  clear h hE hb hR hq0 hbW hk0 hk1 hW
  go_enter Tryz.func113, Tryz.ntmps113
  go_wp2_with fail
  rw [← HWe.out]
  refine (has_any A l ⟨#[114, 97, 110, 107]⟩ b HS.out W HW.out.1).mono ?_
  rintro _ w1 ⟨rfl, hr1, hg1⟩
  have H1 : Hid (RdIs A (if b then l.tail else l) w1 ∧ w.grownBy w1 (some A) ∧ Blk w.heap.size #[.pointer none, .bool false] 149 w1 ∧ Blk (w.heap.size + 1) #[.pointer none, .bool false] 149 w1) := ⟨hr1, HW.out.2.1.trans hg1, HW.out.2.2.1.keep (by omega) hg1, HW.out.2.2.2.keep (by omega) hg1⟩
  clear hr1 hg1
  cases b
  · go_wp2_with fail
    refine (HE.out A l w1 H1.out.1).mono ?_
    rintro _ w2 ⟨hg2, ⟨e, lz, p, hs2, rfl, hx2, hr2⟩ | ⟨hs2, n1, m1, rfl⟩⟩
    · have k0 := H1.out.2.2.1.keep (by omega) hg2
      have k1 := H1.out.2.2.2.keep (by omega) hg2
      have c0 : w2.cell? ⟨w.heap.size + 1, 0, none⟩ = some (.pointer none) := by rw [k1.cell 0]; rfl
      have f0 := k1.free 0
      obtain ⟨wz, hwz⟩ : ∃ wz, w2.setCell ⟨w.heap.size + 1, 0, none⟩ (.pointer p) = wz := ⟨_, rfl⟩
      have HZ : Hid (RdIs A lz wz ∧ w.grownBy wz (some A) ∧ Blk w.heap.size #[.pointer none, .bool false] 149 wz ∧ Blk (w.heap.size + 1) #[.pointer p, .bool false] 149 wz ∧ ExIs q0 wz p e) := by
        rw [← hwz]
        exact ⟨hr2.set (by omega) 0 _, grown_new (H1.out.2.1.trans hg2) (Nat.le_succ _) 0 _, k0.other (by omega) 0 _, k1.set 0 _, ExIs.setB k1 (by decide) 0 _ (hx2.mono (by have h1 := H1.out.2.1.size; have h2 := HQe.out; omega))⟩
      have HRz : Hid (R = some ((e, (rank2 lz).1), (rank2 lz).2)) := by show _ = _; rw [← HR.out, HF.out]; simp only [Bool.false_eq_true, if_false]; rw [hs2]; rfl
      clear hs2 hx2 hr2 hg2 k0 k1 HR HF
      obtain ⟨b2, hb2⟩ : ∃ b, isT ⟨#[97, 115, 99]⟩ lz = b := ⟨_, rfl⟩
      have HS2 : Hid (isT ⟨#[97, 115, 99]⟩ lz = b2) := hb2
      clear hb2
      go_wp2_with fail
      refine (has_any A lz ⟨#[97, 115, 99]⟩ b2 HS2.out wz HZ.out.1).mono ?_
      rintro _ w5 ⟨rfl, hr5, hg5⟩
      have H5 : Hid (RdIs A (if b2 then lz.tail else lz) w5 ∧ w.grownBy w5 (some A) ∧ Blk w.heap.size #[.pointer none, .bool false] 149 w5 ∧ Blk (w.heap.size + 1) #[.pointer p, .bool false] 149 w5 ∧ ExIs q0 w5 p e) := ⟨hr5, HZ.out.2.1.trans hg5, HZ.out.2.2.1.keep (by omega) hg5, HZ.out.2.2.2.1.keep (by omega) hg5, ExIs.grownN HQ.out.1 hg5 HZ.out.2.2.2.2⟩
      clear hr5 hg5
      cases b2
      · obtain ⟨b3, hb3⟩ : ∃ b, isT ⟨#[100, 101, 115, 99]⟩ lz = b := ⟨_, rfl⟩
        have HS3 : Hid (isT ⟨#[100, 101, 115, 99]⟩ lz = b3) := hb3
        clear hb3
        go_wp2_with fail
        refine (has_any A lz ⟨#[100, 101, 115, 99]⟩ b3 HS3.out w5 H5.out.1).mono ?_
        rintro _ w6 ⟨rfl, hr6, hg6⟩
        have H6 : Hid (RdIs A (if b3 then lz.tail else lz) w6 ∧ w.grownBy w6 (some A) ∧ Blk w.heap.size #[.pointer none, .bool false] 149 w6 ∧ Blk (w.heap.size + 1) #[.pointer p, .bool false] 149 w6 ∧ ExIs q0 w6 p e) := ⟨hr6, H5.out.2.1.trans hg6, H5.out.2.2.1.keep (by omega) hg6, H5.out.2.2.2.1.keep (by omega) hg6, ExIs.grownN HQ.out.1 hg6 H5.out.2.2.2.2⟩
        have HR6 : Hid (R = some ((e, b3), if b3 then lz.tail else lz)) := by
          show _ = _
          rw [HRz.out]
          unfold rank2
          rw [if_neg (by rw [HS2.out]; decide), HS3.out]
          cases b3 <;> rfl
        have a0 : w6.cell? ⟨w.heap.size, 0, none⟩ = some (.pointer none) := by rw [H6.out.2.2.1.cell 0]; rfl
        have a1 : w6.cell? ⟨w.heap.size, 1, none⟩ = some (.bool false) := by rw [H6.out.2.2.1.cell 1]; rfl
        have d0 : w6.cell? ⟨w.heap.size + 1, 0, none⟩ = some (.pointer p) := by rw [H6.out.2.2.2.1.cell 0]; rfl
        have d1 : w6.cell? ⟨w.heap.size + 1, 1, none⟩ = some (.bool false) := by rw [H6.out.2.2.2.1.cell 1]; rfl
        have f0 : ∀ i, w6.frozen? ⟨w.heap.size, i, none⟩ = false := fun i => H6.out.2.2.1.free i
        have f1 : ∀ i, w6.frozen? ⟨w.heap.size + 1, i, none⟩ = false := fun i => H6.out.2.2.2.1.free i
        clear hr6 hg6
        go_wp2
        refine bodyPost_ret (v := .agg #[.pointer p, .bool b3]) (results_c Tryz.results113 _ _ _ rfl ?_) rfl ?_
        · simp [go_sem, a0, a1]
        · have k1 := H6.out.2.2.2.1.set 1 (.bool b3)
          have x1 := ExIs.setB H6.out.2.2.2.1 (by decide) 1 (.bool b3) H6.out.2.2.2.2
          have k2 := H6.out.2.2.1.other (by omega : w.heap.size + 1 ≠ w.heap.size) 1 (.bool b3)
          have x2 := ExIs.setB k2 (by decide) 0 (.pointer p) x1
          have x3 := ExIs.setB (k2.set 0 (.pointer p)) (by decide) 1 (.bool b3) x2
          exact ⟨grown_new (grown_new (grown_new H6.out.2.1 (Nat.le_succ _) _ _) (Nat.le_refl _) _ _) (Nat.le_refl _) _ _, .inl ⟨_, _, p, HR6.out, rfl, x3, ((H6.out.1.set (by omega) _ _).set hA _ _).set hA _ _⟩⟩
      · have HR6 : Hid (R = some ((e, false), lz.tail)) := by
          show _ = _
          rw [HRz.out]
          unfold rank2
          rw [if_pos HS2.out]
        have a0 : w5.cell? ⟨w.heap.size, 0, none⟩ = some (.pointer none) := by rw [H5.out.2.2.1.cell 0]; rfl
        have a1 : w5.cell? ⟨w.heap.size, 1, none⟩ = some (.bool false) := by rw [H5.out.2.2.1.cell 1]; rfl
        have d0 : w5.cell? ⟨w.heap.size + 1, 0, none⟩ = some (.pointer p) := by rw [H5.out.2.2.2.1.cell 0]; rfl
        have d1 : w5.cell? ⟨w.heap.size + 1, 1, none⟩ = some (.bool false) := by rw [H5.out.2.2.2.1.cell 1]; rfl
        have f0 : ∀ i, w5.frozen? ⟨w.heap.size, i, none⟩ = false := fun i => H5.out.2.2.1.free i
        go_wp2
        refine bodyPost_ret (v := .agg #[.pointer p, .bool false]) (results_c Tryz.results113 _ _ _ rfl ?_) rfl ?_
        · simp [go_sem, a0, a1]
        · have x2 := ExIs.setB H5.out.2.2.1 (by decide) 0 (.pointer p) H5.out.2.2.2.2
          have x3 := ExIs.setB (H5.out.2.2.1.set 0 (.pointer p)) (by decide) 1 (.bool false) x2
          exact ⟨grown_new (grown_new H5.out.2.1 (Nat.le_refl _) _ _) (Nat.le_refl _) _ _, .inl ⟨_, _, p, HR6.out, rfl, x3, (H5.out.1.set hA _ _).set hA _ _⟩⟩
    · have HG : Hid (w.grownBy w2 (some A) ∧ R = none) := ⟨H1.out.2.1.trans hg2, by rw [← HR.out, HF.out]; simp only [Bool.false_eq_true, if_false]; rw [hs2]; rfl⟩
      clear hg2 hs2
      go_wp2
      exact ⟨by first | rfl | trivial, HG.out.1, .inr ⟨HG.out.2, n1, m1, rfl⟩⟩
  · obtain ⟨wz, hwz⟩ : ∃ wz, wz = w1 := ⟨_, rfl⟩
    subst hwz
    obtain ⟨p, hp⟩ : ∃ p : Option Addr, p = none := ⟨_, rfl⟩
    obtain ⟨e, he⟩ : ∃ e : Ex, e = .nil := ⟨_, rfl⟩
    obtain ⟨lz, hlz⟩ : ∃ lz, lz = l.tail := ⟨_, rfl⟩
    have HZ : Hid (RdIs A lz wz ∧ w.grownBy wz (some A) ∧ Blk w.heap.size #[.pointer none, .bool false] 149 wz ∧ Blk (w.heap.size + 1) #[.pointer p, .bool false] 149 wz ∧ ExIs q0 wz p e) := by
      rw [hp, he, hlz]
      exact ⟨H1.out.1, H1.out.2.1, H1.out.2.2.1, H1.out.2.2.2, rfl⟩
    have HRz : Hid (R = some ((e, (rank2 lz).1), (rank2 lz).2)) := by show _ = _; rw [← HR.out, HF.out, he, hlz]; rfl
    clear hp he hlz H1 HR HF
    obtain ⟨b2, hb2⟩ : ∃ b, isT ⟨#[97, 115, 99]⟩ lz = b := ⟨_, rfl⟩
    have HS2 : Hid (isT ⟨#[97, 115, 99]⟩ lz = b2) := hb2
    clear hb2
    go_wp2_with fail
    refine (has_any A lz ⟨#[97, 115, 99]⟩ b2 HS2.out wz HZ.out.1).mono ?_
    rintro _ w5 ⟨rfl, hr5, hg5⟩
    have H5 : Hid (RdIs A (if b2 then lz.tail else lz) w5 ∧ w.grownBy w5 (some A) ∧ Blk w.heap.size #[.pointer none, .bool false] 149 w5 ∧ Blk (w.heap.size + 1) #[.pointer p, .bool false] 149 w5 ∧ ExIs q0 w5 p e) := ⟨hr5, HZ.out.2.1.trans hg5, HZ.out.2.2.1.keep (by omega) hg5, HZ.out.2.2.2.1.keep (by omega) hg5, ExIs.grownN HQ.out.1 hg5 HZ.out.2.2.2.2⟩
    clear hr5 hg5
    cases b2
    · obtain ⟨b3, hb3⟩ : ∃ b, isT ⟨#[100, 101, 115, 99]⟩ lz = b := ⟨_, rfl⟩
      have HS3 : Hid (isT ⟨#[100, 101, 115, 99]⟩ lz = b3) := hb3
      clear hb3
      go_wp2_with fail
      refine (has_any A lz ⟨#[100, 101, 115, 99]⟩ b3 HS3.out w5 H5.out.1).mono ?_
      rintro _ w6 ⟨rfl, hr6, hg6⟩
      have H6 : Hid (RdIs A (if b3 then lz.tail else lz) w6 ∧ w.grownBy w6 (some A) ∧ Blk w.heap.size #[.pointer none, .bool false] 149 w6 ∧ Blk (w.heap.size + 1) #[.pointer p, .bool false] 149 w6 ∧ ExIs q0 w6 p e) := ⟨hr6, H5.out.2.1.trans hg6, H5.out.2.2.1.keep (by omega) hg6, H5.out.2.2.2.1.keep (by omega) hg6, ExIs.grownN HQ.out.1 hg6 H5.out.2.2.2.2⟩
      have HR6 : Hid (R = some ((e, b3), if b3 then lz.tail else lz)) := by
        show _ = _
        rw [HRz.out]
        unfold rank2
        rw [if_neg (by rw [HS2.out]; decide), HS3.out]
        cases b3 <;> rfl
      have a0 : w6.cell? ⟨w.heap.size, 0, none⟩ = some (.pointer none) := by rw [H6.out.2.2.1.cell 0]; rfl
      have a1 : w6.cell? ⟨w.heap.size, 1, none⟩ = some (.bool false) := by rw [H6.out.2.2.1.cell 1]; rfl
      have d0 : w6.cell? ⟨w.heap.size + 1, 0, none⟩ = some (.pointer p) := by rw [H6.out.2.2.2.1.cell 0]; rfl
      have d1 : w6.cell? ⟨w.heap.size + 1, 1, none⟩ = some (.bool false) := by rw [H6.out.2.2.2.1.cell 1]; rfl
      have f0 : ∀ i, w6.frozen? ⟨w.heap.size, i, none⟩ = false := fun i => H6.out.2.2.1.free i
      have f1 : ∀ i, w6.frozen? ⟨w.heap.size + 1, i, none⟩ = false := fun i => H6.out.2.2.2.1.free i
      clear hr6 hg6
      go_wp2
      refine bodyPost_ret (v := .agg #[.pointer p, .bool b3]) (results_c Tryz.results113 _ _ _ rfl ?_) rfl ?_
      · simp [go_sem, a0, a1]
      · have k1 := H6.out.2.2.2.1.set 1 (.bool b3)
        have x1 := ExIs.setB H6.out.2.2.2.1 (by decide) 1 (.bool b3) H6.out.2.2.2.2
        have k2 := H6.out.2.2.1.other (by omega : w.heap.size + 1 ≠ w.heap.size) 1 (.bool b3)
        have x2 := ExIs.setB k2 (by decide) 0 (.pointer p) x1
        have x3 := ExIs.setB (k2.set 0 (.pointer p)) (by decide) 1 (.bool b3) x2
        exact ⟨grown_new (grown_new (grown_new H6.out.2.1 (Nat.le_succ _) _ _) (Nat.le_refl _) _ _) (Nat.le_refl _) _ _, .inl ⟨_, _, p, HR6.out, rfl, x3, ((H6.out.1.set (by omega) _ _).set hA _ _).set hA _ _⟩⟩
    · have HR6 : Hid (R = some ((e, false), lz.tail)) := by
        show _ = _
        rw [HRz.out]
        unfold rank2
        rw [if_pos HS2.out]
      have a0 : w5.cell? ⟨w.heap.size, 0, none⟩ = some (.pointer none) := by rw [H5.out.2.2.1.cell 0]; rfl
      have a1 : w5.cell? ⟨w.heap.size, 1, none⟩ = some (.bool false) := by rw [H5.out.2.2.1.cell 1]; rfl
      have d0 : w5.cell? ⟨w.heap.size + 1, 0, none⟩ = some (.pointer p) := by rw [H5.out.2.2.2.1.cell 0]; rfl
      have d1 : w5.cell? ⟨w.heap.size + 1, 1, none⟩ = some (.bool false) := by rw [H5.out.2.2.2.1.cell 1]; rfl
      have f0 : ∀ i, w5.frozen? ⟨w.heap.size, i, none⟩ = false := fun i => H5.out.2.2.1.free i
      go_wp2
      refine bodyPost_ret (v := .agg #[.pointer p, .bool false]) (results_c Tryz.results113 _ _ _ rfl ?_) rfl ?_
      · simp [go_sem, a0, a1]
      · have x2 := ExIs.setB H5.out.2.2.1 (by decide) 0 (.pointer p) H5.out.2.2.2.2
        have x3 := ExIs.setB (H5.out.2.2.1.set 0 (.pointer p)) (by decide) 1 (.bool false) x2
        exact ⟨grown_new (grown_new H5.out.2.1 (Nat.le_refl _) _ _) (Nat.le_refl _) _ _, .inl ⟨_, _, p, HR6.out, rfl, x3, (H5.out.1.set hA _ _).set hA _ _⟩⟩
end Go.Proofs.YtmabfbffpedfnaaGreatDoor
namespace Go.Proofs.YtmabfbffpedfnaaGreatDoor
open Go.RowKit

set_option maxRecDepth 100000 in
set_option maxHeartbeats 64000000 in
theorem cl_so (hE : ESpec Ef 0) {A S x : Nat} {w0 : World} {sv : SV} {J : World → Prop} (hJ : StaysJ A 149 62 J) {L : List (Ex × Bool)} {l : List KT} {w : World} (h : Acc 300 A S x w0 (fun v => ({ sv with ord := v } : SV).cells) 62 149 2 (ER (w0.heap.size - 1)) J L l w) :
    Calls Tryz.prog 112 #[.pointer (some ⟨S, 0, none⟩), .pointer (some ⟨x, 0, none⟩)] w fun e w' => (∃ L2 l2, oneOf rankF L l = some (L2, l2) ∧ e = .returned (.tuple #[]) ∧ Acc 301 A S x w0 (fun v => ({ sv with ord := v } : SV).cells) 62 149 2 (ER (w0.heap.size - 1)) J L2 l2 w') ∨ (oneOf rankF L l = none ∧ Thr e ∧ w0.grownBy w' (some A)) := by
  obtain ⟨i0, hi, hz0, hz1, hz2⟩ := info_parts infoRank
  have HE : Hid (ESpec Ef 0) := hE
  have H : Hid (Acc 300 A S x w0 (fun v => ({ sv with ord := v } : SV).cells) 62 149 2 (ER (w0.heap.size - 1)) J L l w) := h
  have HJ : Hid (StaysJ A 149 62 J) := hJ
  obtain ⟨v, hst, cs, hcs, hown⟩ := h.st
  obtain ⟨a4, c4, rfl⟩ := own_slice hown
  have hcnt := h.cnt
  have hLr : L.length ≤ 300 := by omega
  have hlo := h.lo
  have hS0 := h.S0
  have HD : Hid (RdIs A l w.drew) := h.rd.below (Below.refl _ _).drew
  have HC : Hid (∀ wx, Fr (fun k o => k = A ∨ ∃ c fz, o = .cells c 149 fz) w.drew wx → wx.cell? ⟨S, 11, none⟩ = some (.slice a4 L.length c4) ∧ wx.frozen? ⟨S, 11, none⟩ = false ∧ wx.cell? ⟨x, 0, none⟩ = some (.pointer (some ⟨A, 0, none⟩)) ∧ w0.heap.size ≤ wx.heap.size) := fun wx hf => by
    have h1 := (hst.below (Below.refl _ _).drew).fr hf (by
      rintro (e | ⟨c, fz, e⟩)
      · omega
      · cases e)
    have h2 := (h.hx.below (Below.refl _ _).drew).fr hf (by
      rintro (e | ⟨c, fz, e⟩)
      · exact h.nx e
      · cases e)
    exact ⟨by rw [h1.cell 11]; rfl, h1.free 11, by rw [h2.cell 0]; rfl, by have := h1.lt; omega⟩
  have HFr : Hid (Fr (fun k o => k = A ∨ ∃ c fz, o = .cells c 149 fz) w.drew w.drew) := Fr.refl _ _
  have HOw : Hid (w.drew.ownsRow w0.heap.size 149 2 (.slice a4 L.length c4) L.length cs.flatten) := own_below hown (Below.refl _ _).drew
  have HKeep : Hid (All2 ((ER (w0.heap.size - 1)) w) L cs ∧ Blk S ((fun v => ({ sv with ord := v } : SV).cells) (.slice a4 L.length c4)) 62 w ∧ w.ownsRow w0.heap.size 149 2 (.slice a4 L.length c4) L.length cs.flatten) := ⟨hcs, hst, hown⟩
  skip
  clear h hE hJ hst hcs hown
  obtain ⟨cS, fS, cX, lS⟩ := HC.out _ HFr.out
  cases hF : rankF l with
  | none =>
    have HR : Hid (oneOf rankF L l = none) := by show oneOf rankF L l = none; unfold oneOf; rw [hF]; rfl
    have HFn : Hid (rankF l = none) := hF
    clear hF
    go_enter Tryz.func112, Tryz.ntmps112
    go_wp2_with fail
    refine wp_region_held_drew (S := fun w' => w'.cell? ⟨S, 11, none⟩ = some (.slice a4 L.length c4) ∧ w'.cell? ⟨x, 0, none⟩ = some (.pointer (some ⟨A, 0, none⟩))) (by kernel_rfl) ⟨cS, cX⟩ (fun hHeld => ?_)
    refine wpAnyH_take (i := 0) (oi := { dst := some 2, op := Op.fieldAddr 62 (Operand.tmp 0) 11, type := 0, pos := "statement.go:147", after := #[], guard := none }) (v := (.pointer (some ⟨S, 11, none⟩))) rfl (by kernel_rfl) (by kernel_rfl) (by kernel_rfl) (fun _ _ _ h => h) (Or.inl ⟨by rfl, fun w' hSw => ?_⟩) hHeld ?_
    · (try dsimp only at hSw)
      go_simp
    simp only [Act.put, List.setIfInBounds_toArray, List.set_cons_zero, List.set_cons_succ]
    refine wpAnyH_take (i := 1) (oi := { dst := some 3, op := Op.load 60 (Operand.tmp 2), type := 60, pos := "statement.go:147", after := #[{ on := 0, ground := Ground.data }], guard := none }) (v := (.slice a4 L.length c4)) rfl (by kernel_rfl) (by kernel_rfl) (by kernel_rfl) (fun _ _ _ h => h) (Or.inl ⟨by rfl, fun w' hSw => ?_⟩) hHeld ?_
    · (try dsimp only at hSw)
      go_simp
    simp only [Act.put, List.setIfInBounds_toArray, List.set_cons_zero, List.set_cons_succ]
    refine wpAnyH_take (i := 2) (oi := { dst := some 4, op := Op.load 117 (Operand.tmp 1), type := 117, pos := "statement.go:147", after := #[], guard := none }) (v := (.pointer (some ⟨A, 0, none⟩))) rfl (by kernel_rfl) (by kernel_rfl) (by kernel_rfl) (fun _ _ _ h => h) (Or.inl ⟨by rfl, fun w' hSw => ?_⟩) hHeld ?_
    · (try dsimp only at hSw)
      go_simp
    simp only [Act.put, List.setIfInBounds_toArray, List.set_cons_zero, List.set_cons_succ]
    refine wpAnyH_ready (rs := [3]) (by kernel_rfl) (by simp) ?_
    refine AllReadyH.cons (o := { dst := some 5, op := Op.call { callee := Callee.value (Operand.func 113), args := #[Operand.tmp 4], argTypes := #[117] }, type := 149, pos := "statement.go:147", after := #[{ on := 2, ground := Ground.data }], guard := none }) rfl (fun K hK => ?_) AllReadyH.nil
    clear hHeld
    go_simp
    refine (rank_any HE.out A l _ HD.out).mono ?_
    rw [HFn.out]
    rintro _ w10 ⟨hg2, ⟨a, l2, p, hs2, rfl, hx2, hr2⟩ | ⟨hs2, n9, m9, rfl⟩⟩
    · cases hs2
    · have HG : Hid (w0.grownBy w10 (some A)) := (H.out.gr.trans (grown_drew _ _)).trans hg2
      refine (show _ ∧ _ from ⟨?_, .inr ⟨HR.out, ⟨n9, m9, rfl⟩, HG.out⟩⟩)
      first | rfl | trivial
  | some r =>
    obtain ⟨a', l'⟩ := r
    have HR : Hid (oneOf rankF L l = some (L ++ [a'], l')) := by show oneOf rankF L l = _; unfold oneOf; rw [hF]; rfl
    have HRl : Hid (l'.length ≤ l.length) := (rankF_reads l H.out.rd.ok _ hF).2
    have HFs : Hid (rankF l = some (a', l')) := hF
    clear hF
    go_enter Tryz.func112, Tryz.ntmps112
    go_wp2_with fail
    go_region_law (first
      | (refine step_append_lies _ rfl (.tmp 3) (.tmp 6) 60 rfl w0.heap.size 149 i0 (.agg #[.pointer none, .bool false]) 2 16 Tryz.underlying60 hi hz0 hz1 hz2 rfl (by decide) (.slice a4 L.length c4) L.length cs.flatten (by simp [Act.eval]) (HOw.out.alloc _) ⟨w10.heap.size, 0, none⟩ 1 1 [.pointer p, .bool a'.2] (by simp [Act.eval]) rfl (news_two w10 _ _ _) (by intro u hu; simp at hu; rcases hu with rfl | rfl <;> rfl) (by decide) (by simp [maxLen]; omega) (by omega) (by simp; omega) _ rfl ?_; intro g3 cap3 w3 ho3 hg3 _ _; have HO3 : Hid (w3.ownsRow w0.heap.size 149 2 (.slice (some ⟨g3, 0, none⟩) (L.length + 1) cap3) (L.length + 1) (cs.flatten ++ [.pointer p, .bool a'.2])) := ho3; have HG3 : Hid ((w10.alloc (.cells #[.pointer p, .bool a'.2] 149)).grownBy w3 (Value.slice a4 L.length c4).ownBlock) := hg3; have HFr : Hid (Fr (fun k o => k = A ∨ ∃ c fz, o = .cells c 149 fz) w.drew w3) := (HFr.out.trans (Fr.of_below ((Below.refl _ _).alloc (Nat.le_refl _) _))).trans (Fr.row (fun _ _ _ => .inr ⟨_, _, rfl⟩) (HOw.out.alloc _) hg3); obtain ⟨cSd, fSd, cXd, lSd⟩ := HC.out _ HFr.out; clear ho3 hg3)
      | (go_wp2_with (go_at_call 113; refine Calls.mono (rank_any HE.out A l _ HD.out) ?_; rw [HFs.out]; rintro _ w10 ⟨hg2, hc2⟩; obtain ⟨a, l2, p, hs2, rfl, hx2, hr2⟩ := hc2.resolve_right (fun h => by cases h.1); obtain ⟨rfl, rfl⟩ := Prod.mk.inj (Option.some.inj hs2); have HG : Hid (w.drew.grownBy w10 (some A)) := hg2; have HFr : Hid (Fr (fun k o => k = A ∨ ∃ c fz, o = .cells c 149 fz) w.drew w10) := Fr.of_grown (fun _ => .inl rfl) hg2; have HX2 : Hid (ExIs (w0.heap.size - 1) w10 p a'.1) := hx2.mono (by have h1 := H.out.gr.size; have h2 := (Below.refl w.heap.size w).drew.size; omega); have HR2 : Hid (RdIs A l' w10) := hr2; have HOw : Hid (w10.ownsRow w0.heap.size 149 2 (.slice a4 L.length c4) L.length cs.flatten) := own_grownN hlo HOw.out hg2; obtain ⟨cSb, fSb, cXb, lSb⟩ := HC.out _ HFr.out; obtain ⟨cSc, fSc, cXc, lSc⟩ := HC.out (w10.alloc (.cells #[.pointer p, .bool a'.2] 149)) (HFr.out.trans (Fr.of_below ((Below.refl _ _).alloc (Nat.le_refl _) _))); clear hx2 hr2 hg2 hs2)))
    all_goals
      go_end0
      exact .inl ⟨_, _, HR.out, rfl, Acc.snoc H.out (ER_stays (by have := H.out.lo; omega) (by decide)) HJ.out (by decide) HKeep.out.2.1 HKeep.out.1 HKeep.out.2.2 ((grown_drew _ _).trans HG.out) HR2.out ⟨p, rfl, HX2.out⟩ HG3.out HO3.out rfl HRl.out⟩
end Go.Proofs.YtmabfbffpedfnaaGreatDoor
namespace Go.Proofs.YtmabfbffpedfnaaGreatDoor
open Go.RowKit

theorem li_so (hE : ESpec Ef 0) {A S x : Nat} {w0 : World} {sv : SV} {J : World → Prop} (hJ : StaysJ A 149 62 J) {L : List (Ex × Bool)} {l : List KT} {w : World} (h : Acc 300 A S x w0 (fun v => ({ sv with ord := v } : SV).cells) 62 149 2 (ER (w0.heap.size - 1)) J L l w) :
    Calls Tryz.prog 100 #[.pointer (some ⟨A, 0, none⟩), .func (.func 112) #[] #[.pointer (some ⟨S, 0, none⟩), .pointer (some ⟨x, 0, none⟩)]] w fun e w' =>
      (∃ L2 l2, listS (oneOf rankF) L l = some (L2, l2) ∧ e = .returned (.tuple #[]) ∧ Acc 301 A S x w0 (fun v => ({ sv with ord := v } : SV).cells) 62 149 2 (ER (w0.heap.size - 1)) J L2 l2 w') ∨ (listS (oneOf rankF) L l = none ∧ Thr e ∧ w0.grownBy w' (some A)) := by
  have hs : Stays A 149 62 (ER (w0.heap.size - 1)) := (ER_stays (by have := h.lo; omega) (by decide))
  refine list_so (fun s => oneOf_reads rankF_reads s) A _ _ (fun L l w => Acc 300 A S x w0 (fun v => ({ sv with ord := v } : SV).cells) 62 149 2 (ER (w0.heap.size - 1)) J L l w) (fun L l w => Acc 301 A S x w0 (fun v => ({ sv with ord := v } : SV).cells) 62 149 2 (ER (w0.heap.size - 1)) J L l w) (fun w' => w0.grownBy w' (some A)) (fun _ _ _ h => h.rd) ?_ ?_ (fun s l w h => cl_so hE hJ h) L l w h h.rd.ok
  · intro L l w w1 h hr hg
    exact h.grown hs hJ hr hg h.cnt
  · intro L l w w1 h hr hg hl
    exact h.grown hs hJ hr hg (by have := h.cnt; omega)
end Go.Proofs.YtmabfbffpedfnaaGreatDoor
