/- Part 6 of 35. -/
import Derived.Test.YtbdcbaamjkjhaaaGreatDoorH05
import Derived.Deep.RegionLaw
import Derived.Deep.DrawnRows
attribute [local go_sem ↓] Go.wp_at_zero Go.wp_at_succ
namespace Go.Proofs.YtbdcbaamjkjhaaaGreatDoor
open Go.RowKit

set_option maxRecDepth 100000 in
set_option maxHeartbeats 32000000 in
theorem one_c (hPI : PIntSpec) {E : Rf Ex} {n : Nat} (hn13 : n ≤ 13) (hE : n ≤ 12 → ESpec E (n + 1)) (hEr : Reads E) (A : Nat) (l : List KT) (w : World) (h : RdIs A l w) (hc : nameB l = true ∧ isT ⟨#[110, 117, 108, 108]⟩ l = false ∧ isT ⟨#[40]⟩ l = false) : Calls Tryz.prog 204 #[.pointer (some ⟨A, 0, none⟩), .int .i64 (n : Int)] w fun e w' => Told A (oneD n E l) w e w' := by
  have HE : Hid (PIntSpec ∧ (n ≤ 12 → ESpec E (n + 1)) ∧ Reads E) := ⟨hPI, hE, hEr⟩
  obtain ⟨V, hV⟩ : ∃ V, (w.alloc (.cells #[.pointer (some ⟨A, 0, none⟩)] 104)).alloc (.cells #[.int .i64 (n : Int)] 3) = V := ⟨_, rfl⟩
  have hVb : Below w.heap.size w V := by rw [← hV]; exact ((Below.refl _ _).alloc (Nat.le_refl _) _).alloc (by simp) _
  have hbx : BoxAt A w.heap.size (w.heap.size + 1) n V := by rw [← hV]; exact box_new n h.lt
  have HV : Hid (RdIs A l V ∧ BoxAt A w.heap.size (w.heap.size + 1) n V ∧ w.grownBy V (some A) ∧ A < w.heap.size) := ⟨h.below hVb, hbx, grown_of_belowA hVb _, h.lt⟩
  have HBx : Hid (∀ wx, V.grownBy wx (some A) → wx.cell? ⟨w.heap.size, 0, none⟩ = some (.pointer (some ⟨A, 0, none⟩)) ∧ wx.cell? ⟨w.heap.size + 1, 0, none⟩ = some (.int .i64 (n : Int))) := fun wx hg => ⟨(hbx.grown hg).cx, (hbx.grown hg).cy⟩
  obtain ⟨q0, hq0⟩ : ∃ q0, w.heap.size - 1 = q0 := ⟨_, rfl⟩
  have HQ : Hid (q0 < w.heap.size) := by have := h.lt; show _ < _; omega
  have HQe : Hid (w.heap.size - 1 = q0) := hq0
  obtain ⟨R, hR⟩ : ∃ R, oneD n E l = R := ⟨_, rfl⟩
  have HR : Hid ((n ≤ 12 → oneF E l = R) ∧ (¬ n ≤ 12 → R = none)) := by
    rw [← hR]; unfold oneD
    exact ⟨fun h => (if_pos h).symm, fun h => if_neg h⟩
  unfold Told
  rw [hR, hq0]
  generalize hk : (hdT l).1 = k
  generalize ht : (hdT l).2 = t
  have HK : Hid ((hdT l).1 = k ∧ (hdT l).2 = t) := ⟨hk, ht⟩
  obtain ⟨b1, hb1⟩ : ∃ b, isT ⟨#[40]⟩ l = b := ⟨_, rfl⟩
  obtain ⟨b2, hb2⟩ : ∃ b, isT ⟨#[110, 117, 108, 108]⟩ l = b := ⟨_, rfl⟩
  obtain ⟨b5, hb5⟩ : ∃ b, nameB l = b := ⟨_, rfl⟩
  have HT : Hid (isT ⟨#[40]⟩ l = b1 ∧ isT ⟨#[110, 117, 108, 108]⟩ l = b2 ∧ nameB l = b5) := ⟨hb1, hb2, hb5⟩
  have h1 := hbx.cx
  have h2 := hbx.cy
  have hn13' : (n : Int) ≤ 13 := by omega
  have hf := field0 k
  have hka : b1 = true → k = 1 ∨ k = 4 := fun e => by rw [← hk]; exact (isT_k (by rw [hb1, e])).1
  have hkb : b2 = true → k = 1 ∨ k = 4 := fun e => by rw [← hk]; exact (isT_k (by rw [hb2, e])).1
  have hkc : b5 = true → k = 1 := fun e => by
    rw [e] at hb5
    simp only [nameB, Bool.and_eq_true, decide_eq_true_eq] at hb5
    rw [← hk]; exact hb5.1
  have hkd : b1 = true → b2 = false := fun e => by
    cases hh : b2 with
    | false => rfl
    | true =>
      have e1 := (isT_k (by rw [hb1, e])).2
      have e2 := (isT_k (by rw [hb2, hh])).2
      rw [e1] at e2
      exact absurd e2 (by decide)
  have hAw := h.lt
  clear h hPI hE hEr hbx hVb hR hq0 hk ht hb1 hb2 hb5
  go_enter Tryz.func204, Tryz.ntmps204
  go_wp2_with fail
  refine (now_any A l V HV.out.1).mono ?_
  rintro _ w1 ⟨⟨p, rfl⟩, hb1⟩
  rw [HK.out.1, HK.out.2]
  have HB : Hid (Below V.heap.size V w1) := hb1
  have HG0 : Hid (∀ wx, Below V.heap.size V wx → V.grownBy wx (some A) ∧ RdIs A l wx) := fun wx hb => ⟨grown_of_belowA hb _, HV.out.1.below hb⟩
  obtain ⟨c1, c2⟩ := HBx.out w1 (grown_of_belowA hb1 _)
  clear hb1 h1 h2 hV
  generalize hWB : w.heap.size = B at *
  obtain rfl : b5 = true := by rw [← HT.out.2.2]; exact hc.1
  have hk14 := hkc rfl
  obtain rfl : b2 = false := by rw [← HT.out.2.1]; exact hc.2.1
  obtain rfl : b1 = false := by rw [← HT.out.1]; exact hc.2.2
  have hk2 : k ≠ 2 ∧ k ≠ 3 := by omega
  have HK2 : Hid ((hdT l).1 ≠ 2 ∧ (hdT l).1 ≠ 3) := by rw [HK.out.1]; exact hk2
  have d2 : (k == 2) = false := by rw [beq_eq_false_iff_ne]; exact hk2.1
  have d3 : (k == 3) = false := by rw [beq_eq_false_iff_ne]; exact hk2.2
  clear hk14 hka hkb hkc hkd hk2 hc
  go_wp2_with fail
  have HB : Hid (Below V.heap.size V w1.drew) := HB.out.drew
  have HC : Hid (w.heap.size = B ∧ A < B ∧ n ≤ 13 ∧ (n : Int) ≤ 13) := ⟨hWB, hAw, hn13, hn13'⟩
  clear hWB hAw hn13' hf hn13
  refine wp_region_held_drew (S := fun w' => w'.cell? ⟨B, 0, none⟩ = some (.pointer (some ⟨A, 0, none⟩))) (by kernel_rfl) (HBx.out _ (HG0.out _ HB.out).1).1 (fun hHeld => ?_)
  refine wpAnyH_take (i := 0) (oi := { dst := some 10, op := Op.load 104 (Operand.tmp 2), type := 104, pos := "expr.go:71", after := #[], guard := none }) (v := (.pointer (some ⟨A, 0, none⟩))) rfl (by kernel_rfl) (by kernel_rfl) (by kernel_rfl) (fun _ _ _ h => h) (Or.inl ⟨by rfl, fun w' hSw => ?_⟩) hHeld ?_
  · (try dsimp only at hSw)
    go_simp
  simp only [Act.put, List.setIfInBounds_toArray, List.set_cons_zero, List.set_cons_succ]
  refine wpAnyH_take (i := 1) (oi := { dst := some 11, op := Op.load 104 (Operand.tmp 2), type := 104, pos := "expr.go:71", after := #[], guard := none }) (v := (.pointer (some ⟨A, 0, none⟩))) rfl (by kernel_rfl) (by kernel_rfl) (by kernel_rfl) (fun _ _ _ h => h) (Or.inl ⟨by rfl, fun w' hSw => ?_⟩) hHeld ?_
  · (try dsimp only at hSw)
    go_simp
  simp only [Act.put, List.setIfInBounds_toArray, List.set_cons_zero, List.set_cons_succ]
  refine wpAnyH_ready (rs := [2]) (by kernel_rfl) (by simp) ?_
  refine AllReadyH.cons (o := { dst := some 12, op := Op.call { callee := Callee.value (Operand.func 96), args := #[Operand.tmp 11, Operand.const (Value.string { data := #[40] })], argTypes := #[104, 9] }, type := 4, pos := "expr.go:71", after := #[{ on := 1, ground := Ground.data }], guard := none }) rfl (fun K hK => ?_) AllReadyH.nil
  clear hHeld
  go_simp
  refine (is_any A l _ false HT.out.1 _ (HG0.out _ HB.out).2).mono ?_
  rintro _ w10 ⟨rfl, hb10⟩
  have HB : Hid (Below V.heap.size V w10) := HB.out.trans (hb10.mono HB.out.size)
  clear hb10
  go_simp
  refine hK.out _ _ (HBx.out _ (HG0.out _ HB.out).1).1 (fun hHeld => ?_)
  clear hK K
  refine wpAnyH_take (i := 3) (oi := { dst := some 13, op := Op.move (Operand.tmp 12), type := 4, pos := "expr.go:71", after := #[{ on := 2, ground := Ground.data }, { on := 2, ground := Ground.chain }], guard := none }) (v := (.bool false)) rfl (by kernel_rfl) (by kernel_rfl) (by kernel_rfl) (fun _ _ _ h => h) (Or.inl ⟨by rfl, fun w' hSw => ?_⟩) hHeld ?_
  · (try dsimp only at hSw)
    go_simp
  simp only [Act.put, List.setIfInBounds_toArray, List.set_cons_zero, List.set_cons_succ]
  refine wpAnyH_take (i := 4) (oi := { dst := some 14, op := Op.load 104 (Operand.tmp 2), type := 104, pos := "expr.go:71", after := #[{ on := 3, ground := Ground.guard }], guard := some (3, false) }) (v := (.pointer (some ⟨A, 0, none⟩))) rfl (by kernel_rfl) (by kernel_rfl) (by kernel_rfl) (fun _ _ _ h => h) (Or.inl ⟨by rfl, fun w' hSw => ?_⟩) hHeld ?_
  · (try dsimp only at hSw)
    go_simp
  simp only [Act.put, List.setIfInBounds_toArray, List.set_cons_zero, List.set_cons_succ]
  refine wpAnyH_ready (rs := [5]) (by kernel_rfl) (by simp) ?_
  refine AllReadyH.cons (o := { dst := some 15, op := Op.call { callee := Callee.value (Operand.func 96), args := #[Operand.tmp 14, Operand.const (Value.string { data := #[110, 117, 108, 108] })], argTypes := #[104, 9] }, type := 4, pos := "expr.go:71", after := #[{ on := 4, ground := Ground.data }, { on := 3, ground := Ground.chain }, { on := 3, ground := Ground.guard }], guard := some (3, false) }) rfl (fun K hK => ?_) AllReadyH.nil
  clear hHeld
  go_simp
  refine (is_any A l _ false HT.out.2.1 _ (HG0.out _ HB.out).2).mono ?_
  rintro _ w11 ⟨rfl, hb10⟩
  have HB : Hid (Below V.heap.size V w11) := HB.out.trans (hb10.mono HB.out.size)
  clear hb10
  go_simp
  refine hK.out _ _ (HBx.out _ (HG0.out _ HB.out).1).1 (fun hHeld => ?_)
  clear hK K
  refine wpAnyH_take (i := 6) (oi := { dst := some 16, op := Op.pick (Operand.tmp 13) (Operand.const (Value.bool true)) (Operand.tmp 15), type := 4, pos := "expr.go:71", after := #[{ on := 3, ground := Ground.data }, { on := 5, ground := Ground.data }], guard := none }) (v := (.bool false)) rfl (by kernel_rfl) (by kernel_rfl) (by kernel_rfl) (fun _ _ _ h => h) (Or.inl ⟨by rfl, fun w' hSw => ?_⟩) hHeld ?_
  · (try dsimp only at hSw)
    go_simp
  simp only [Act.put, List.setIfInBounds_toArray, List.set_cons_zero, List.set_cons_succ]
  refine wpAnyH_take (i := 7) (oi := { dst := some 17, op := Op.move (Operand.tmp 16), type := 4, pos := "expr.go:71", after := #[{ on := 6, ground := Ground.data }, { on := 5, ground := Ground.chain }], guard := none }) (v := (.bool false)) rfl (by kernel_rfl) (by kernel_rfl) (by kernel_rfl) (fun _ _ _ h => h) (Or.inl ⟨by rfl, fun w' hSw => ?_⟩) hHeld ?_
  · (try dsimp only at hSw)
    go_simp
  simp only [Act.put, List.setIfInBounds_toArray, List.set_cons_zero, List.set_cons_succ]
  refine wpAnyH_take (i := 8) (oi := { dst := some 18, op := Op.move (Operand.tmp 5), type := 3, pos := "expr.go:71", after := #[{ on := 7, ground := Ground.guard }], guard := some (7, false) }) (v := (.int .i64 k)) rfl (by kernel_rfl) (by kernel_rfl) (by kernel_rfl) (fun _ _ _ h => h) (Or.inl ⟨by rfl, fun w' hSw => ?_⟩) hHeld ?_
  · (try dsimp only at hSw)
    go_simp
  simp only [Act.put, List.setIfInBounds_toArray, List.set_cons_zero, List.set_cons_succ]
  refine wpAnyH_take (i := 9) (oi := { dst := some 19, op := Op.binOp BinOp.eql 3 (Operand.tmp 18) (Operand.const (Value.int IntKind.i64 2)) 3, type := 4, pos := "expr.go:71", after := #[{ on := 8, ground := Ground.data }, { on := 7, ground := Ground.guard }], guard := some (7, false) }) (v := (.bool false)) rfl (by kernel_rfl) (by kernel_rfl) (by kernel_rfl) (fun _ _ _ h => h) (Or.inl ⟨by rfl, fun w' hSw => ?_⟩) hHeld ?_
  · (try dsimp only at hSw)
    go_simp
  simp only [Act.put, List.setIfInBounds_toArray, List.set_cons_zero, List.set_cons_succ]
  refine wpAnyH_take (i := 10) (oi := { dst := some 20, op := Op.pick (Operand.tmp 17) (Operand.const (Value.bool true)) (Operand.tmp 19), type := 4, pos := "expr.go:71", after := #[{ on := 7, ground := Ground.data }, { on := 9, ground := Ground.data }], guard := none }) (v := (.bool false)) rfl (by kernel_rfl) (by kernel_rfl) (by kernel_rfl) (fun _ _ _ h => h) (Or.inl ⟨by rfl, fun w' hSw => ?_⟩) hHeld ?_
  · (try dsimp only at hSw)
    go_simp
  simp only [Act.put, List.setIfInBounds_toArray, List.set_cons_zero, List.set_cons_succ]
  refine wpAnyH_take (i := 11) (oi := { dst := some 21, op := Op.move (Operand.tmp 20), type := 4, pos := "expr.go:71", after := #[{ on := 10, ground := Ground.data }, { on := 7, ground := Ground.chain }], guard := none }) (v := (.bool false)) rfl (by kernel_rfl) (by kernel_rfl) (by kernel_rfl) (fun _ _ _ h => h) (Or.inl ⟨by rfl, fun w' hSw => ?_⟩) hHeld ?_
  · (try dsimp only at hSw)
    go_simp
  simp only [Act.put, List.setIfInBounds_toArray, List.set_cons_zero, List.set_cons_succ]
  refine wpAnyH_take (i := 12) (oi := { dst := some 22, op := Op.move (Operand.tmp 5), type := 3, pos := "expr.go:71", after := #[{ on := 11, ground := Ground.guard }], guard := some (11, false) }) (v := (.int .i64 k)) rfl (by kernel_rfl) (by kernel_rfl) (by kernel_rfl) (fun _ _ _ h => h) (Or.inl ⟨by rfl, fun w' hSw => ?_⟩) hHeld ?_
  · (try dsimp only at hSw)
    go_simp
  simp only [Act.put, List.setIfInBounds_toArray, List.set_cons_zero, List.set_cons_succ]
  refine wpAnyH_take (i := 13) (oi := { dst := some 23, op := Op.binOp BinOp.eql 3 (Operand.tmp 22) (Operand.const (Value.int IntKind.i64 3)) 3, type := 4, pos := "expr.go:71", after := #[{ on := 12, ground := Ground.data }, { on := 11, ground := Ground.guard }], guard := some (11, false) }) (v := (.bool false)) rfl (by kernel_rfl) (by kernel_rfl) (by kernel_rfl) (fun _ _ _ h => h) (Or.inl ⟨by rfl, fun w' hSw => ?_⟩) hHeld ?_
  · (try dsimp only at hSw)
    go_simp
  simp only [Act.put, List.setIfInBounds_toArray, List.set_cons_zero, List.set_cons_succ]
  refine wpAnyH_take (i := 14) (oi := { dst := some 24, op := Op.pick (Operand.tmp 21) (Operand.const (Value.bool true)) (Operand.tmp 23), type := 4, pos := "expr.go:71", after := #[{ on := 11, ground := Ground.data }, { on := 13, ground := Ground.data }], guard := none }) (v := (.bool false)) rfl (by kernel_rfl) (by kernel_rfl) (by kernel_rfl) (fun _ _ _ h => h) (Or.inl ⟨by rfl, fun w' hSw => ?_⟩) hHeld ?_
  · (try dsimp only at hSw)
    go_simp
  simp only [Act.put, List.setIfInBounds_toArray, List.set_cons_zero, List.set_cons_succ]
  refine wpAnyH_take (i := 15) (oi := { dst := some 25, op := Op.move (Operand.tmp 24), type := 4, pos := "expr.go:71", after := #[{ on := 14, ground := Ground.data }, { on := 11, ground := Ground.chain }], guard := none }) (v := (.bool false)) rfl (by kernel_rfl) (by kernel_rfl) (by kernel_rfl) (fun _ _ _ h => h) (Or.inl ⟨by rfl, fun w' hSw => ?_⟩) hHeld ?_
  · (try dsimp only at hSw)
    go_simp
  simp only [Act.put, List.setIfInBounds_toArray, List.set_cons_zero, List.set_cons_succ]
  refine wpAnyH_take (i := 16) (oi := { dst := some 26, op := Op.load 104 (Operand.tmp 2), type := 104, pos := "expr.go:71", after := #[{ on := 15, ground := Ground.guard }], guard := some (15, false) }) (v := (.pointer (some ⟨A, 0, none⟩))) rfl (by kernel_rfl) (by kernel_rfl) (by kernel_rfl) (fun _ _ _ h => h) (Or.inl ⟨by rfl, fun w' hSw => ?_⟩) hHeld ?_
  · (try dsimp only at hSw)
    go_simp
  simp only [Act.put, List.setIfInBounds_toArray, List.set_cons_zero, List.set_cons_succ]
  refine wpAnyH_ready (rs := [17]) (by kernel_rfl) (by simp) ?_
  refine AllReadyH.cons (o := { dst := some 27, op := Op.call { callee := Callee.value (Operand.func 122), args := #[Operand.tmp 26], argTypes := #[104] }, type := 4, pos := "expr.go:71", after := #[{ on := 16, ground := Ground.data }, { on := 15, ground := Ground.chain }, { on := 15, ground := Ground.guard }], guard := some (15, false) }) rfl (fun K hK => ?_) AllReadyH.nil
  clear hHeld
  go_simp
  refine (isName_any A l true HT.out.2.2 _ (HG0.out _ HB.out).2).mono ?_
  rintro _ w13 ⟨rfl, hb10⟩
  have HB : Hid (Below V.heap.size V w13) := HB.out.trans (hb10.mono HB.out.size)
  clear hb10
  go_simp
  refine hK.out _ _ (HBx.out _ (HG0.out _ HB.out).1).1 (fun hHeld => ?_)
  clear hK K
  refine wpAnyH_take (i := 18) (oi := { dst := some 28, op := Op.pick (Operand.tmp 25) (Operand.const (Value.bool true)) (Operand.tmp 27), type := 4, pos := "expr.go:71", after := #[{ on := 15, ground := Ground.data }, { on := 17, ground := Ground.data }], guard := none }) (v := (.bool true)) rfl (by kernel_rfl) (by kernel_rfl) (by kernel_rfl) (fun _ _ _ h => h) (Or.inl ⟨by rfl, fun w' hSw => ?_⟩) hHeld ?_
  · (try dsimp only at hSw)
    go_simp
  simp only [Act.put, List.setIfInBounds_toArray, List.set_cons_zero, List.set_cons_succ]
  refine wpAnyH_ready (rs := [19]) (by kernel_rfl) (by simp) ?_
  refine AllReadyH.cons (o := { dst := some 29, op := Op.call { callee := Callee.value (Operand.func 51), args := #[Operand.tmp 10, Operand.tmp 28], argTypes := #[104, 4] }, type := 0, pos := "expr.go:71", after := #[{ on := 0, ground := Ground.data }, { on := 18, ground := Ground.data }, { on := 17, ground := Ground.chain }], guard := none }) rfl (fun K hK => ?_) AllReadyH.nil
  clear hHeld
  go_simp
  refine (must_yes A _).mono ?_
  rintro _ w12 ⟨rfl, hw12⟩
  subst hw12
  go_simp
  refine hK.out _ _ (HBx.out _ (HG0.out _ HB.out).1).1 (fun hHeld => ?_)
  clear hK K
  refine wpAnyH_done (by kernel_rfl) ?_ _
  obtain ⟨y1, y2⟩ := HBx.out _ (HG0.out _ HB.out).1
  have hWB := HC.out.1
  obtain rfl := hWB
  clear c1 c2
  go_wp2_with fail
  by_cases hn : n ≤ 12
  · refine (most_yes A (n : Int) 12 (by omega) _).mono ?_
    rintro _ w3 ⟨rfl, hw3⟩
    subst hw3
    have H3 : Hid (RdIs A l w3 ∧ w.grownBy w3 (some A) ∧ BoxAt A w.heap.size (w.heap.size + 1) n w3) := ⟨(HG0.out _ HB.out).2, HV.out.2.2.1.trans (HG0.out _ HB.out).1, HV.out.2.1.grown (HG0.out _ HB.out).1⟩
    have HR3 : Hid (oneF E l = R) := HR.out.1 hn
    clear hn
    go_wp2_with fail
    refine (has_any A l ⟨#[110, 117, 108, 108]⟩ false HT.out.2.1 w3 H3.out.1).mono ?_
    rintro _ w4 ⟨rfl, hr4, hg4⟩
    have H4 : Hid (RdIs A l w4 ∧ w.grownBy w4 (some A) ∧ BoxAt A w.heap.size (w.heap.size + 1) n w4) := ⟨hr4, H3.out.2.1.trans hg4, H3.out.2.2.grown hg4⟩
    have x1 := H4.out.2.2.cx
    clear hr4 hg4 y1 y2
    go_wp2_with fail
    refine (is_any A l ⟨#[40]⟩ false HT.out.1 w4 H4.out.1).mono ?_
    rintro _ w5 ⟨rfl, hb5⟩
    have H5 : Hid (RdIs A l w5 ∧ w.grownBy w5 (some A) ∧ BoxAt A w.heap.size (w.heap.size + 1) n w5) := ⟨H4.out.1.below hb5, H4.out.2.1.trans (grown_of_belowA hb5 _), H4.out.2.2.grown (grown_of_belowA hb5 _)⟩
    have x2 := H5.out.2.2.cx
    clear hb5 x1
    go_wp2_with fail
    refine (col_any A l w5 H5.out.1).mono ?_
    rintro _ w6 ht
    have HT6 := Told.from ht H5.out.2.1
    unfold Told at HT6
    have HR6 : Hid (colF l = R) := by show _ = _; rw [← HR3.out]; exact (one_col HK2.out.1 HK2.out.2 HT.out.2.1 HT.out.1).symm
    rw [HQe.out, HR6.out] at HT6
    clear ht
    rcases HT6 with ⟨hg, ⟨x, l1, p, h1, rfl, h3, h4⟩ | ⟨h1, n1, m1, rfl⟩⟩
    · go_wp2
      go_ret
      exact ⟨hg, .inl ⟨x, l1, p, h1, rfl, h3, h4⟩⟩
    · go_wp2
      exact ⟨by first | rfl | trivial, hg, .inr ⟨h1, n1, m1, rfl⟩⟩
  · refine (most_no A l (n : Int) 12 (by omega) _ (HG0.out _ HB.out).2).mono ?_
    rintro _ w4 ⟨⟨n1, m1, rfl⟩, hb4⟩
    have HG : Hid (w.grownBy w4 (some A) ∧ R = none) := ⟨(HV.out.2.2.1.trans (HG0.out _ HB.out).1).trans (grown_of_belowA hb4 _), HR.out.2 hn⟩
    clear hb4
    go_wp2
    exact ⟨by first | rfl | trivial, HG.out.1, .inr ⟨HG.out.2, n1, m1, rfl⟩⟩
end Go.Proofs.YtbdcbaamjkjhaaaGreatDoor
attribute [local go_sem ↓] Go.wp_at_zero Go.wp_at_succ
namespace Go.Proofs.YtbdcbaamjkjhaaaGreatDoor
open Go.RowKit

set_option maxRecDepth 100000 in
set_option maxHeartbeats 32000000 in
theorem one_o (hPI : PIntSpec) {E : Rf Ex} {n : Nat} (hn13 : n ≤ 13) (hE : n ≤ 12 → ESpec E (n + 1)) (hEr : Reads E) (A : Nat) (l : List KT) (w : World) (h : RdIs A l w) (hc : (hdT l).1 ≠ 2 ∧ (hdT l).1 ≠ 3 ∧ nameB l = false ∧ isT ⟨#[110, 117, 108, 108]⟩ l = false ∧ isT ⟨#[40]⟩ l = false) : Calls Tryz.prog 204 #[.pointer (some ⟨A, 0, none⟩), .int .i64 (n : Int)] w fun e w' => Told A (oneD n E l) w e w' := by
  have HE : Hid (PIntSpec ∧ (n ≤ 12 → ESpec E (n + 1)) ∧ Reads E) := ⟨hPI, hE, hEr⟩
  obtain ⟨V, hV⟩ : ∃ V, (w.alloc (.cells #[.pointer (some ⟨A, 0, none⟩)] 104)).alloc (.cells #[.int .i64 (n : Int)] 3) = V := ⟨_, rfl⟩
  have hVb : Below w.heap.size w V := by rw [← hV]; exact ((Below.refl _ _).alloc (Nat.le_refl _) _).alloc (by simp) _
  have hbx : BoxAt A w.heap.size (w.heap.size + 1) n V := by rw [← hV]; exact box_new n h.lt
  have HV : Hid (RdIs A l V ∧ BoxAt A w.heap.size (w.heap.size + 1) n V ∧ w.grownBy V (some A) ∧ A < w.heap.size) := ⟨h.below hVb, hbx, grown_of_belowA hVb _, h.lt⟩
  have HBx : Hid (∀ wx, V.grownBy wx (some A) → wx.cell? ⟨w.heap.size, 0, none⟩ = some (.pointer (some ⟨A, 0, none⟩)) ∧ wx.cell? ⟨w.heap.size + 1, 0, none⟩ = some (.int .i64 (n : Int))) := fun wx hg => ⟨(hbx.grown hg).cx, (hbx.grown hg).cy⟩
  obtain ⟨q0, hq0⟩ : ∃ q0, w.heap.size - 1 = q0 := ⟨_, rfl⟩
  have HQ : Hid (q0 < w.heap.size) := by have := h.lt; show _ < _; omega
  have HQe : Hid (w.heap.size - 1 = q0) := hq0
  obtain ⟨R, hR⟩ : ∃ R, oneD n E l = R := ⟨_, rfl⟩
  have HR : Hid ((n ≤ 12 → oneF E l = R) ∧ (¬ n ≤ 12 → R = none)) := by
    rw [← hR]; unfold oneD
    exact ⟨fun h => (if_pos h).symm, fun h => if_neg h⟩
  unfold Told
  rw [hR, hq0]
  generalize hk : (hdT l).1 = k
  generalize ht : (hdT l).2 = t
  have HK : Hid ((hdT l).1 = k ∧ (hdT l).2 = t) := ⟨hk, ht⟩
  obtain ⟨b1, hb1⟩ : ∃ b, isT ⟨#[40]⟩ l = b := ⟨_, rfl⟩
  obtain ⟨b2, hb2⟩ : ∃ b, isT ⟨#[110, 117, 108, 108]⟩ l = b := ⟨_, rfl⟩
  obtain ⟨b5, hb5⟩ : ∃ b, nameB l = b := ⟨_, rfl⟩
  have HT : Hid (isT ⟨#[40]⟩ l = b1 ∧ isT ⟨#[110, 117, 108, 108]⟩ l = b2 ∧ nameB l = b5) := ⟨hb1, hb2, hb5⟩
  have h1 := hbx.cx
  have h2 := hbx.cy
  have hn13' : (n : Int) ≤ 13 := by omega
  have hf := field0 k
  have hka : b1 = true → k = 1 ∨ k = 4 := fun e => by rw [← hk]; exact (isT_k (by rw [hb1, e])).1
  have hkb : b2 = true → k = 1 ∨ k = 4 := fun e => by rw [← hk]; exact (isT_k (by rw [hb2, e])).1
  have hkc : b5 = true → k = 1 := fun e => by
    rw [e] at hb5
    simp only [nameB, Bool.and_eq_true, decide_eq_true_eq] at hb5
    rw [← hk]; exact hb5.1
  have hkd : b1 = true → b2 = false := fun e => by
    cases hh : b2 with
    | false => rfl
    | true =>
      have e1 := (isT_k (by rw [hb1, e])).2
      have e2 := (isT_k (by rw [hb2, hh])).2
      rw [e1] at e2
      exact absurd e2 (by decide)
  have hAw := h.lt
  clear h hPI hE hEr hbx hVb hR hq0 hk ht hb1 hb2 hb5
  go_enter Tryz.func204, Tryz.ntmps204
  go_wp2_with fail
  refine (now_any A l V HV.out.1).mono ?_
  rintro _ w1 ⟨⟨p, rfl⟩, hb1⟩
  rw [HK.out.1, HK.out.2]
  have HB : Hid (Below V.heap.size V w1) := hb1
  have HG0 : Hid (∀ wx, Below V.heap.size V wx → V.grownBy wx (some A) ∧ RdIs A l wx) := fun wx hb => ⟨grown_of_belowA hb _, HV.out.1.below hb⟩
  obtain ⟨c1, c2⟩ := HBx.out w1 (grown_of_belowA hb1 _)
  clear hb1 h1 h2 hV
  generalize hWB : w.heap.size = B at *
  have HRn : Hid (R = none) := by
    show _ = _
    by_cases hn : n ≤ 12
    · rw [← HR.out.1 hn, one_col hc.1 hc.2.1 hc.2.2.2.1 hc.2.2.2.2]; exact col_no hc.2.2.1
    · exact HR.out.2 hn
  obtain rfl : b5 = false := by rw [← HT.out.2.2]; exact hc.2.2.1
  obtain rfl : b2 = false := by rw [← HT.out.2.1]; exact hc.2.2.2.1
  obtain rfl : b1 = false := by rw [← HT.out.1]; exact hc.2.2.2.2
  have hk14 : k ≠ 2 ∧ k ≠ 3 := by rw [← HK.out.1]; exact ⟨hc.1, hc.2.1⟩
  have hk2 : k ≠ 2 ∧ k ≠ 3 := hk14
  have HK2 : Hid ((hdT l).1 ≠ 2 ∧ (hdT l).1 ≠ 3) := by rw [HK.out.1]; exact hk2
  have d2 : (k == 2) = false := by rw [beq_eq_false_iff_ne]; exact hk2.1
  have d3 : (k == 3) = false := by rw [beq_eq_false_iff_ne]; exact hk2.2
  clear hk14 hka hkb hkc hkd hk2 hc
  go_wp2_with fail
  have HB : Hid (Below V.heap.size V w1.drew) := HB.out.drew
  have HC : Hid (w.heap.size = B ∧ A < B ∧ n ≤ 13 ∧ (n : Int) ≤ 13) := ⟨hWB, hAw, hn13, hn13'⟩
  clear hWB hAw hn13' hf hn13
  have c1d := (HBx.out _ (HG0.out _ HB.out).1).1
  refine wp_region_held_drew (S := fun w' => w'.cell? ⟨B, 0, none⟩ = some (.pointer (some ⟨A, 0, none⟩))) (by kernel_rfl) (HBx.out _ (HG0.out _ HB.out).1).1 (fun hHeld => ?_)
  refine wpAnyH_take (i := 0) (oi := { dst := some 10, op := Op.load 104 (Operand.tmp 2), type := 104, pos := "expr.go:71", after := #[], guard := none }) (v := (.pointer (some ⟨A, 0, none⟩))) rfl (by kernel_rfl) (by kernel_rfl) (by kernel_rfl) (fun _ _ _ h => h) (Or.inl ⟨by rfl, fun w' hSw => ?_⟩) hHeld ?_
  · (try dsimp only at hSw)
    go_simp
  simp only [Act.put, List.setIfInBounds_toArray, List.set_cons_zero, List.set_cons_succ]
  refine wpAnyH_take (i := 1) (oi := { dst := some 11, op := Op.load 104 (Operand.tmp 2), type := 104, pos := "expr.go:71", after := #[], guard := none }) (v := (.pointer (some ⟨A, 0, none⟩))) rfl (by kernel_rfl) (by kernel_rfl) (by kernel_rfl) (fun _ _ _ h => h) (Or.inl ⟨by rfl, fun w' hSw => ?_⟩) hHeld ?_
  · (try dsimp only at hSw)
    go_simp
  simp only [Act.put, List.setIfInBounds_toArray, List.set_cons_zero, List.set_cons_succ]
  refine wpAnyH_ready (rs := [2]) (by kernel_rfl) (by simp) ?_
  refine AllReadyH.cons (o := { dst := some 12, op := Op.call { callee := Callee.value (Operand.func 96), args := #[Operand.tmp 11, Operand.const (Value.string { data := #[40] })], argTypes := #[104, 9] }, type := 4, pos := "expr.go:71", after := #[{ on := 1, ground := Ground.data }], guard := none }) rfl (fun K hK => ?_) AllReadyH.nil
  clear hHeld
  go_simp
  refine (is_any A l _ false HT.out.1 _ (HG0.out _ HB.out).2).mono ?_
  rintro _ w10 ⟨rfl, hb10⟩
  have HB : Hid (Below V.heap.size V w10) := HB.out.trans (hb10.mono HB.out.size)
  clear hb10
  go_simp
  refine hK.out _ _ (HBx.out _ (HG0.out _ HB.out).1).1 (fun hHeld => ?_)
  clear hK K
  refine wpAnyH_take (i := 3) (oi := { dst := some 13, op := Op.move (Operand.tmp 12), type := 4, pos := "expr.go:71", after := #[{ on := 2, ground := Ground.data }, { on := 2, ground := Ground.chain }], guard := none }) (v := (.bool false)) rfl (by kernel_rfl) (by kernel_rfl) (by kernel_rfl) (fun _ _ _ h => h) (Or.inl ⟨by rfl, fun w' hSw => ?_⟩) hHeld ?_
  · (try dsimp only at hSw)
    go_simp
  simp only [Act.put, List.setIfInBounds_toArray, List.set_cons_zero, List.set_cons_succ]
  refine wpAnyH_take (i := 4) (oi := { dst := some 14, op := Op.load 104 (Operand.tmp 2), type := 104, pos := "expr.go:71", after := #[{ on := 3, ground := Ground.guard }], guard := some (3, false) }) (v := (.pointer (some ⟨A, 0, none⟩))) rfl (by kernel_rfl) (by kernel_rfl) (by kernel_rfl) (fun _ _ _ h => h) (Or.inl ⟨by rfl, fun w' hSw => ?_⟩) hHeld ?_
  · (try dsimp only at hSw)
    go_simp
  simp only [Act.put, List.setIfInBounds_toArray, List.set_cons_zero, List.set_cons_succ]
  refine wpAnyH_ready (rs := [5]) (by kernel_rfl) (by simp) ?_
  refine AllReadyH.cons (o := { dst := some 15, op := Op.call { callee := Callee.value (Operand.func 96), args := #[Operand.tmp 14, Operand.const (Value.string { data := #[110, 117, 108, 108] })], argTypes := #[104, 9] }, type := 4, pos := "expr.go:71", after := #[{ on := 4, ground := Ground.data }, { on := 3, ground := Ground.chain }, { on := 3, ground := Ground.guard }], guard := some (3, false) }) rfl (fun K hK => ?_) AllReadyH.nil
  clear hHeld
  go_simp
  refine (is_any A l _ false HT.out.2.1 _ (HG0.out _ HB.out).2).mono ?_
  rintro _ w11 ⟨rfl, hb10⟩
  have HB : Hid (Below V.heap.size V w11) := HB.out.trans (hb10.mono HB.out.size)
  clear hb10
  go_simp
  refine hK.out _ _ (HBx.out _ (HG0.out _ HB.out).1).1 (fun hHeld => ?_)
  clear hK K
  refine wpAnyH_take (i := 6) (oi := { dst := some 16, op := Op.pick (Operand.tmp 13) (Operand.const (Value.bool true)) (Operand.tmp 15), type := 4, pos := "expr.go:71", after := #[{ on := 3, ground := Ground.data }, { on := 5, ground := Ground.data }], guard := none }) (v := (.bool false)) rfl (by kernel_rfl) (by kernel_rfl) (by kernel_rfl) (fun _ _ _ h => h) (Or.inl ⟨by rfl, fun w' hSw => ?_⟩) hHeld ?_
  · (try dsimp only at hSw)
    go_simp
  simp only [Act.put, List.setIfInBounds_toArray, List.set_cons_zero, List.set_cons_succ]
  refine wpAnyH_take (i := 7) (oi := { dst := some 17, op := Op.move (Operand.tmp 16), type := 4, pos := "expr.go:71", after := #[{ on := 6, ground := Ground.data }, { on := 5, ground := Ground.chain }], guard := none }) (v := (.bool false)) rfl (by kernel_rfl) (by kernel_rfl) (by kernel_rfl) (fun _ _ _ h => h) (Or.inl ⟨by rfl, fun w' hSw => ?_⟩) hHeld ?_
  · (try dsimp only at hSw)
    go_simp
  simp only [Act.put, List.setIfInBounds_toArray, List.set_cons_zero, List.set_cons_succ]
  refine wpAnyH_take (i := 8) (oi := { dst := some 18, op := Op.move (Operand.tmp 5), type := 3, pos := "expr.go:71", after := #[{ on := 7, ground := Ground.guard }], guard := some (7, false) }) (v := (.int .i64 k)) rfl (by kernel_rfl) (by kernel_rfl) (by kernel_rfl) (fun _ _ _ h => h) (Or.inl ⟨by rfl, fun w' hSw => ?_⟩) hHeld ?_
  · (try dsimp only at hSw)
    go_simp
  simp only [Act.put, List.setIfInBounds_toArray, List.set_cons_zero, List.set_cons_succ]
  refine wpAnyH_take (i := 9) (oi := { dst := some 19, op := Op.binOp BinOp.eql 3 (Operand.tmp 18) (Operand.const (Value.int IntKind.i64 2)) 3, type := 4, pos := "expr.go:71", after := #[{ on := 8, ground := Ground.data }, { on := 7, ground := Ground.guard }], guard := some (7, false) }) (v := (.bool false)) rfl (by kernel_rfl) (by kernel_rfl) (by kernel_rfl) (fun _ _ _ h => h) (Or.inl ⟨by rfl, fun w' hSw => ?_⟩) hHeld ?_
  · (try dsimp only at hSw)
    go_simp
  simp only [Act.put, List.setIfInBounds_toArray, List.set_cons_zero, List.set_cons_succ]
  refine wpAnyH_take (i := 10) (oi := { dst := some 20, op := Op.pick (Operand.tmp 17) (Operand.const (Value.bool true)) (Operand.tmp 19), type := 4, pos := "expr.go:71", after := #[{ on := 7, ground := Ground.data }, { on := 9, ground := Ground.data }], guard := none }) (v := (.bool false)) rfl (by kernel_rfl) (by kernel_rfl) (by kernel_rfl) (fun _ _ _ h => h) (Or.inl ⟨by rfl, fun w' hSw => ?_⟩) hHeld ?_
  · (try dsimp only at hSw)
    go_simp
  simp only [Act.put, List.setIfInBounds_toArray, List.set_cons_zero, List.set_cons_succ]
  refine wpAnyH_take (i := 11) (oi := { dst := some 21, op := Op.move (Operand.tmp 20), type := 4, pos := "expr.go:71", after := #[{ on := 10, ground := Ground.data }, { on := 7, ground := Ground.chain }], guard := none }) (v := (.bool false)) rfl (by kernel_rfl) (by kernel_rfl) (by kernel_rfl) (fun _ _ _ h => h) (Or.inl ⟨by rfl, fun w' hSw => ?_⟩) hHeld ?_
  · (try dsimp only at hSw)
    go_simp
  simp only [Act.put, List.setIfInBounds_toArray, List.set_cons_zero, List.set_cons_succ]
  refine wpAnyH_take (i := 12) (oi := { dst := some 22, op := Op.move (Operand.tmp 5), type := 3, pos := "expr.go:71", after := #[{ on := 11, ground := Ground.guard }], guard := some (11, false) }) (v := (.int .i64 k)) rfl (by kernel_rfl) (by kernel_rfl) (by kernel_rfl) (fun _ _ _ h => h) (Or.inl ⟨by rfl, fun w' hSw => ?_⟩) hHeld ?_
  · (try dsimp only at hSw)
    go_simp
  simp only [Act.put, List.setIfInBounds_toArray, List.set_cons_zero, List.set_cons_succ]
  refine wpAnyH_take (i := 13) (oi := { dst := some 23, op := Op.binOp BinOp.eql 3 (Operand.tmp 22) (Operand.const (Value.int IntKind.i64 3)) 3, type := 4, pos := "expr.go:71", after := #[{ on := 12, ground := Ground.data }, { on := 11, ground := Ground.guard }], guard := some (11, false) }) (v := (.bool false)) rfl (by kernel_rfl) (by kernel_rfl) (by kernel_rfl) (fun _ _ _ h => h) (Or.inl ⟨by rfl, fun w' hSw => ?_⟩) hHeld ?_
  · (try dsimp only at hSw)
    go_simp
  simp only [Act.put, List.setIfInBounds_toArray, List.set_cons_zero, List.set_cons_succ]
  refine wpAnyH_take (i := 14) (oi := { dst := some 24, op := Op.pick (Operand.tmp 21) (Operand.const (Value.bool true)) (Operand.tmp 23), type := 4, pos := "expr.go:71", after := #[{ on := 11, ground := Ground.data }, { on := 13, ground := Ground.data }], guard := none }) (v := (.bool false)) rfl (by kernel_rfl) (by kernel_rfl) (by kernel_rfl) (fun _ _ _ h => h) (Or.inl ⟨by rfl, fun w' hSw => ?_⟩) hHeld ?_
  · (try dsimp only at hSw)
    go_simp
  simp only [Act.put, List.setIfInBounds_toArray, List.set_cons_zero, List.set_cons_succ]
  refine wpAnyH_take (i := 15) (oi := { dst := some 25, op := Op.move (Operand.tmp 24), type := 4, pos := "expr.go:71", after := #[{ on := 14, ground := Ground.data }, { on := 11, ground := Ground.chain }], guard := none }) (v := (.bool false)) rfl (by kernel_rfl) (by kernel_rfl) (by kernel_rfl) (fun _ _ _ h => h) (Or.inl ⟨by rfl, fun w' hSw => ?_⟩) hHeld ?_
  · (try dsimp only at hSw)
    go_simp
  simp only [Act.put, List.setIfInBounds_toArray, List.set_cons_zero, List.set_cons_succ]
  refine wpAnyH_take (i := 16) (oi := { dst := some 26, op := Op.load 104 (Operand.tmp 2), type := 104, pos := "expr.go:71", after := #[{ on := 15, ground := Ground.guard }], guard := some (15, false) }) (v := (.pointer (some ⟨A, 0, none⟩))) rfl (by kernel_rfl) (by kernel_rfl) (by kernel_rfl) (fun _ _ _ h => h) (Or.inl ⟨by rfl, fun w' hSw => ?_⟩) hHeld ?_
  · (try dsimp only at hSw)
    go_simp
  simp only [Act.put, List.setIfInBounds_toArray, List.set_cons_zero, List.set_cons_succ]
  refine wpAnyH_ready (rs := [17]) (by kernel_rfl) (by simp) ?_
  refine AllReadyH.cons (o := { dst := some 27, op := Op.call { callee := Callee.value (Operand.func 122), args := #[Operand.tmp 26], argTypes := #[104] }, type := 4, pos := "expr.go:71", after := #[{ on := 16, ground := Ground.data }, { on := 15, ground := Ground.chain }, { on := 15, ground := Ground.guard }], guard := some (15, false) }) rfl (fun K hK => ?_) AllReadyH.nil
  clear hHeld
  go_simp
  refine (isName_any A l false HT.out.2.2 _ (HG0.out _ HB.out).2).mono ?_
  rintro _ w13 ⟨rfl, hb10⟩
  have HB : Hid (Below V.heap.size V w13) := HB.out.trans (hb10.mono HB.out.size)
  clear hb10
  go_simp
  refine hK.out _ _ (HBx.out _ (HG0.out _ HB.out).1).1 (fun hHeld => ?_)
  clear hK K
  refine wpAnyH_take (i := 18) (oi := { dst := some 28, op := Op.pick (Operand.tmp 25) (Operand.const (Value.bool true)) (Operand.tmp 27), type := 4, pos := "expr.go:71", after := #[{ on := 15, ground := Ground.data }, { on := 17, ground := Ground.data }], guard := none }) (v := (.bool false)) rfl (by kernel_rfl) (by kernel_rfl) (by kernel_rfl) (fun _ _ _ h => h) (Or.inl ⟨by rfl, fun w' hSw => ?_⟩) hHeld ?_
  · (try dsimp only at hSw)
    go_simp
  simp only [Act.put, List.setIfInBounds_toArray, List.set_cons_zero, List.set_cons_succ]
  refine wpAnyH_ready (rs := [19]) (by kernel_rfl) (by simp) ?_
  refine AllReadyH.cons (o := { dst := some 29, op := Op.call { callee := Callee.value (Operand.func 51), args := #[Operand.tmp 10, Operand.tmp 28], argTypes := #[104, 4] }, type := 0, pos := "expr.go:71", after := #[{ on := 0, ground := Ground.data }, { on := 18, ground := Ground.data }, { on := 17, ground := Ground.chain }], guard := none }) rfl (fun K hK => ?_) AllReadyH.nil
  clear hHeld
  go_simp
  refine (must_no A l _ (HG0.out _ HB.out).2).mono ?_
  rintro _ w12 ⟨⟨n9, m9, rfl⟩, hb10⟩
  have HG : Hid (w.grownBy w12 (some A)) := (HV.out.2.2.1.trans (HG0.out _ HB.out).1).trans (grown_of_belowA hb10 _)
  refine (show _ ∧ _ from ⟨?_, HG.out, .inr ⟨HRn.out, n9, m9, rfl⟩⟩)
  first | rfl | trivial
end Go.Proofs.YtbdcbaamjkjhaaaGreatDoor
namespace Go.Proofs.YtbdcbaamjkjhaaaGreatDoor
open Go.RowKit

theorem one_any (hPI : PIntSpec) {E : Rf Ex} {n : Nat} (hn13 : n ≤ 13) (hE : n ≤ 12 → ESpec E (n + 1)) (hEr : Reads E) : OSpec (oneD n E) n := by
  intro A l w h
  by_cases h2 : (hdT l).1 = 2
  · exact one_n hPI hn13 hE hEr A l w h h2
  by_cases h3 : (hdT l).1 = 3
  · exact one_x hPI hn13 hE hEr A l w h h3
  cases h4 : isT ⟨#[110, 117, 108, 108]⟩ l with
  | true => exact one_u hPI hn13 hE hEr A l w h h4
  | false =>
    cases h5 : isT ⟨#[40]⟩ l with
    | true => exact one_p hPI hn13 hE hEr A l w h h5
    | false =>
      cases h6 : nameB l with
      | true => exact one_c hPI hn13 hE hEr A l w h ⟨h6, h4, h5⟩
      | false => exact one_o hPI hn13 hE hEr A l w h ⟨h2, h3, h6, h4, h5⟩
theorem lev_of (hPI : PIntSpec) (d : Nat) : d ≤ 13 → ESpec (lev d).E (13 - d) ∧ NSpec (lev d).N (13 - d) ∧ MSpec (lev d).M (13 - d) := by
  induction d with
  | zero =>
    intro _
    have hr : Reads (fun _ => none : Rf Ex) := (fun _ _ _ h => by cases h)
    have hO : OSpec (oneD 13 (fun _ => none)) 13 := one_any hPI (Nat.le_refl _) (fun h => absurd h (by decide)) hr
    have hM : MSpec (fun _ => none) 13 := minus_deep hO (fun l => rfl)
    have hP := prod_of hM hr
    have hS := sum_of hP (chainF_reads hr _)
    have hA := ask_of hS (fun l x h => by cases h)
    have hN : NSpec (fun _ => none) 13 := not_deep hA (fun l => rfl)
    have hB := both_of hN hr
    have hE := expr_of hB (chainF_reads hr _)
    exact ⟨hE, hN, hM⟩
  | succ d ih =>
    intro hd
    obtain ⟨hE, hN, hM⟩ := ih (by omega)
    have e : 13 - d = 13 - (d + 1) + 1 := by omega
    rw [e] at hE hN hM
    have hR := lev_reads d
    have hn : 13 - (d + 1) ≤ 12 := by omega
    have hO : OSpec (oneF (lev d).E) (13 - (d + 1)) := by
      have := one_any hPI (n := 13 - (d + 1)) (by omega) (fun _ => hE) hR.1
      have e2 : oneD (13 - (d + 1)) (lev d).E = oneF (lev d).E := by funext l; unfold oneD; rw [if_pos hn]
      rw [e2] at this
      exact this
    have hMr := minusF_reads hR.2.2 (oneF_reads hR.1)
    have hM2 := minus_of hn hM hO
    have hP := prod_of hM2 hMr
    have hS := sum_of hP (chainF_reads hMr _)
    have hA := ask_of hS (sumF_nn (minusF_nn (oneF_nn (lev_nn d).1)))
    have hN2 := not_of hn hN hA
    have hNr := notF_reads hR.2.1 (askF_reads (sumF_reads hMr))
    have hB := both_of hN2 hNr
    have hE2 := expr_of hB (chainF_reads hNr _)
    exact ⟨hE2, hN2, hM2⟩
theorem Ef_of (hPI : PIntSpec) : ESpec Ef 0 := (lev_of hPI 13 (Nat.le_refl _)).1
end Go.Proofs.YtbdcbaamjkjhaaaGreatDoor
namespace Go.Proofs.YtbdcbaamjkjhaaaGreatDoor
open Go.RowKit

theorem Fr.row {X : Nat → Obj → Prop} {w w' : World} {N T sz n : Nat} {v : Value} {xs : List Value} (hX : ∀ k c fz, X k (.cells c T fz)) (ho : w.ownsRow N T sz v n xs) (hg : w.grownBy w' v.ownBlock) : Fr X w w' := fun k o hk hx => by
  rw [hg.block k (Array.getElem?_eq_some_iff.1 hk).1 ?_]
  · exact hk
  · intro e
    rcases ho.2 with ⟨rfl, _⟩ | ⟨g, cap, cur, rfl, h2, h3, _⟩
    · cases e
    · have e' : k = g := Option.some.inj e
      subst e'
      rw [h3] at hk
      cases hk
      exact hx (hX _ _ _)
/-- two lists, pair by pair -/
inductive All2 {α β : Type} (R : α → β → Prop) : List α → List β → Prop
  | nil : All2 R [] []
  | cons {a : α} {b : β} {l : List α} {m : List β} (h : R a b) (t : All2 R l m) : All2 R (a :: l) (b :: m)
theorem All2.mono {α β : Type} {R Q : α → β → Prop} {l : List α} {m : List β} (h : All2 R l m) (hq : ∀ a b, R a b → Q a b) : All2 Q l m := by
  induction h with
  | nil => exact .nil
  | cons h _ ih => exact .cons (hq _ _ h) ih
theorem All2.snoc {α β : Type} {R : α → β → Prop} {l : List α} {m : List β} (h : All2 R l m) {a : α} {b : β} (hab : R a b) : All2 R (l ++ [a]) (m ++ [b]) := by
  induction h with
  | nil => exact .cons hab .nil
  | cons h _ ih => exact .cons h ih
/-- a row of such things that the call owns -/
def RowOf {α : Type} (N T sz : Nat) (E : α → List Value → Prop) (w : World) (v : Value) (L : List α) : Prop :=
  ∃ cs : List (List Value), All2 E L cs ∧ w.ownsRow N T sz v L.length cs.flatten
theorem RowOf.nil {α : Type} (N T sz : Nat) (E : α → List Value → Prop) (w : World) : RowOf N T sz E w (.slice none 0 0) [] := ⟨[], .nil, World.ownsRow_nil _ _ _ _⟩
theorem own_fr {N T sz n : Nat} {X : Nat → Obj → Prop} {w w' : World} {v : Value} {xs : List Value} (h : w.ownsRow N T sz v n xs) (hf : Fr X w w') (hX : ∀ k cs, N ≤ k → w.heap[k]? = some (.cells cs T (0, 0)) → ¬ X k (.cells cs T (0, 0))) : w'.ownsRow N T sz v n xs := by
  refine ⟨h.1, ?_⟩
  rcases h.2 with h3 | ⟨g, cap, cur, e1, e2, e3, e4⟩
  · exact .inl h3
  · exact .inr ⟨g, cap, cur, e1, e2, hf _ _ e3 (hX g cur e2 e3), e4⟩
theorem RowOf.fr {α : Type} {N T sz : Nat} {E E' : α → List Value → Prop} {X : Nat → Obj → Prop} {w w' : World} {v : Value} {L : List α} (h : RowOf N T sz E w v L) (hf : Fr X w w') (hX : ∀ k cs, N ≤ k → w.heap[k]? = some (.cells cs T (0, 0)) → ¬ X k (.cells cs T (0, 0))) (hE : ∀ a c, E a c → E' a c) : RowOf N T sz E' w' v L := by
  obtain ⟨cs, h1, h2⟩ := h
  exact ⟨cs, h1.mono hE, own_fr h2 hf hX⟩
theorem own_slice {w : World} {N T sz n : Nat} {v : Value} {xs : List Value} (h : w.ownsRow N T sz v n xs) : ∃ a c, v = .slice a n c := by
  rcases h.2 with ⟨rfl, rfl⟩ | ⟨g, cap, cur, rfl, _⟩
  · exact ⟨none, 0, rfl⟩
  · exact ⟨_, cap, rfl⟩
theorem own_grownN {A N T sz n : Nat} {w w' : World} {v : Value} {xs : List Value} (hN : A < N) (h : w.ownsRow N T sz v n xs) (hg : w.grownBy w' (some A)) : w'.ownsRow N T sz v n xs :=
  own_fr (X := fun k _ => k = A) h (Fr.of_grown (fun _ => rfl) hg) (fun k _ hk _ e => by omega)
/-- blocks of two types may change -/
def XT (T T' : Nat) : Nat → Obj → Prop := fun _ o => ∃ c fz, o = .cells c T fz ∨ o = .cells c T' fz
/-- what holds of an element's cells goes on holding -/
def StaysJ (A T T' : Nat) (J : World → Prop) : Prop := (∀ w w', w.grownBy w' (some A) → J w → J w') ∧ (∀ w w', Fr (XT T T') w w' → J w → J w')
theorem staysT (A T T' : Nat) : StaysJ A T T' (fun _ => True) := ⟨fun _ _ _ h => h, fun _ _ _ h => h⟩
def Stays {α : Type} (A T T' : Nat) (E : World → α → List Value → Prop) : Prop := (∀ w w' a c, w.grownBy w' (some A) → E w a c → E w' a c) ∧ (∀ w w' a c, Fr (XT T T') w w' → E w a c → E w' a c)
theorem ExIs.xt {n T T' : Nat} {w w' : World} (hT : T ≠ 48 ∧ T' ≠ 48) (hf : Fr (XT T T') w w') {q : Ex} {p : Option Addr} (h : ExIs n w p q) : ExIs n w' p q :=
  ExIs.fr hf (fun k cs fz _ _ => by
    rintro ⟨c, fz', e | e⟩
    · cases e; exact hT.1 rfl
    · cases e; exact hT.2 rfl) q h
theorem Blk.fr {b T : Nat} {cs : Array Value} {X : Nat → Obj → Prop} {w w' : World} (h : Blk b cs T w) (hf : Fr X w w') (hX : ¬ X b (.cells cs T (0, 0))) : Blk b cs T w' := hf _ _ h hX
/-- the state between the elements of a row: it stands in cell i of block S -/
structure Acc {α : Type} (c A S x : Nat) (w0 : World) (cf : Value → Array Value) (T' T sz : Nat) (E : World → α → List Value → Prop) (J : World → Prop) (L : List α) (l : List KT) (w : World) : Prop where
  rd : RdIs A l w
  hx : Blk x #[.pointer (some ⟨A, 0, none⟩)] 104 w
  nx : x ≠ A
  xS : x ≠ S
  st : ∃ v, Blk S (cf v) T' w ∧ RowOf w0.heap.size T sz (E w) w v L
  gr : w0.grownBy w (some A)
  lo : A < w0.heap.size
  S0 : w0.heap.size ≤ S
  cnt : L.length + l.length ≤ c
  side : J w
theorem Acc.grown {α : Type} {c c' A S x : Nat} {w0 : World} {cf : Value → Array Value} {T' T sz : Nat} {E : World → α → List Value → Prop} {J : World → Prop} {L : List α} {l l' : List KT} {w w' : World} (h : Acc c A S x w0 cf T' T sz E J L l w) (hE : Stays A T T' E) (hJ : StaysJ A T T' J) (hr : RdIs A l' w') (hg : w.grownBy w' (some A)) (hc : L.length + l'.length ≤ c') : Acc c' A S x w0 cf T' T sz E J L l' w' := by
  obtain ⟨v, h1, cs, h2, h3⟩ := h.st
  have hS : S ≠ A := by have := h.S0; have := h.lo; omega
  exact ⟨hr, h.hx.keep h.nx hg, h.nx, h.xS, ⟨v, h1.keep hS hg, cs, h2.mono (fun a b hab => hE.1 _ _ a b hg hab), own_grownN h.lo h3 hg⟩, h.gr.trans hg, h.lo, h.S0, hc, hJ.1 _ _ hg h.side⟩
theorem grown_append {A N T sz n : Nat} {w0 w w' : World} {v : Value} {xs : List Value} (h : w0.grownBy w (some A)) (hN : w0.heap.size ≤ N) (ho : w.ownsRow N T sz v n xs) (hg : w.grownBy w' v.ownBlock) : w0.grownBy w' (some A) :=
  ⟨hg.os.trans h.os, hg.tape.trans h.tape, hg.output.trans h.output, Nat.le_trans h.size hg.size, fun k hk hne => by
    rw [hg.block k (Nat.lt_of_lt_of_le hk h.size) (fun e => by have := (ho.lt k e.symm).1; omega)]
    exact h.block k hk hne⟩
/-- one more -/
theorem Acc.snoc {α : Type} {c A S x : Nat} {w0 : World} {cf : Value → Array Value} {T' T sz : Nat} {E : World → α → List Value → Prop} {J : World → Prop} {L : List α} {l l' : List KT} {w w10 w3 : World} {v v' : Value} {cs : List (List Value)} {o : Obj} {i : Nat} {a : α} {cn : List Value}
    (h : Acc c A S x w0 cf T' T sz E J L l w) (hE : Stays A T T' E) (hJ : StaysJ A T T' J) (hT : T ≠ 104 ∧ T' ≠ T)
    (hst : Blk S (cf v) T' w) (hcs : All2 (E w) L cs) (hown : w.ownsRow w0.heap.size T sz v L.length cs.flatten) (hg : w.grownBy w10 (some A)) (hr : RdIs A l' w10) (ha : E w10 a cn)
    (hg3 : (w10.alloc o).grownBy w3 v.ownBlock) (ho3 : w3.ownsRow w0.heap.size T sz v' (L.length + 1) (cs.flatten ++ cn)) (hup : (cf v).setIfInBounds i v' = cf v') (hl : l'.length ≤ l.length) :
    Acc (c + 1) A S x w0 cf T' T sz E J (L ++ [a]) l' (w3.setCell ⟨S, i, none⟩ v') := by
  have hS0 := h.S0
  have hlo := h.lo
  have hbA : Below w10.heap.size w10 (w10.alloc o) := (Below.refl _ _).alloc (Nat.le_refl _) _
  have hown10 := own_grownN hlo hown hg
  have hownA := own_below hown10 hbA
  have hf3 : Fr (XT T T') w10 w3 := (Fr.of_below hbA).trans (Fr.row (fun _ _ _ => ⟨_, _, .inl rfl⟩) hownA hg3)
  have hfr3 : Fr (fun _ o => ∃ c fz, o = .cells c T fz) w10 w3 := (Fr.of_below hbA).trans (Fr.row (fun _ _ _ => ⟨_, _, rfl⟩) hownA hg3)
  have hst10 := hst.keep (by omega : S ≠ A) hg
  have hst3 := hst10.fr hfr3 (by rintro ⟨c, fz, e⟩; cases e; exact hT.2 rfl)
  have hx3 := (h.hx.keep h.nx hg).fr hfr3 (by rintro ⟨c, fz, e⟩; cases e; exact hT.1 rfl)
  have hfS : Fr (XT T T') w3 (w3.setCell ⟨S, i, none⟩ v') := fun k ob hk hx => by
    by_cases e : k = S
    · subst e
      have h3 : w3.heap[k]? = _ := hst3
      rw [h3] at hk
      cases hk
      exact absurd ⟨_, _, .inr rfl⟩ hx
    · rw [Below.heap_setCell w3 ⟨S, i, none⟩ v' k (fun e' => e (by simpa using e'))]; exact hk
  have hlow : ∀ k, k ≤ A → w3.heap[k]? = w10.heap[k]? := fun k hk => by
    rw [hg3.block k (by have := hr.lt; simp; omega) (fun e => ?_)]
    · exact hbA.block k (by have := hr.lt; omega)
    · have := (hownA.lt k e.symm).1
      omega
  refine ⟨(hr.keep hlow).set (by omega) i v', hx3.other (fun e => h.xS e.symm) i v', h.nx, h.xS, ⟨v', ?_, cs ++ [cn], ?_, ?_⟩, ?_, hlo, hS0, ?_, hJ.2 _ _ hfS (hJ.2 _ _ hf3 (hJ.1 _ _ hg h.side))⟩
  · have := hst3.set i v'
    rw [hup] at this
    exact this
  · exact All2.snoc (hcs.mono fun a b hab => hE.2 _ _ a b hfS (hE.2 _ _ a b hf3 (hE.1 _ _ a b hg hab))) (hE.2 _ _ a cn hfS (hE.2 _ _ a cn hf3 ha))
  · have e : (cs ++ [cn]).flatten = cs.flatten ++ cn := by simp
    rw [e, List.length_append, List.length_singleton]
    refine own_fr (X := fun k _ => k = S) ho3 (Fr.set (fun _ => rfl) i v') (fun k cs' _ hk e' => ?_)
    have h3 : w3.heap[S]? = _ := hst3
    rw [e', h3] at hk
    cases hk
    exact hT.2 rfl
  · exact grown_new (grown_append ((h.gr.trans hg).trans (grown_alloc _ _ _)) (Nat.le_refl _) hownA hg3) hS0 i v'
  · have := h.cnt
    rw [List.length_append, List.length_singleton]
    omega
theorem news_two (w : World) (a b : Value) (t : TypeId) : ∀ j u, ([a, b] : List Value)[j]? = some u → (w.alloc (.cells #[a, b] t)).cell? ((⟨w.heap.size, 0, none⟩ : Addr).add j) = some u := by
  intro j u hj
  rw [Go.WideShapes.add_plain]
  have hj2 : j = 0 ∨ j = 1 := by
    have := (List.getElem?_eq_some_iff.1 hj).1
    simp at this
    omega
  rcases hj2 with rfl | rfl <;> (simp at hj; subst hj; simp)
theorem news_one (w : World) (a : Value) (t : TypeId) : ∀ j u, ([a] : List Value)[j]? = some u → (w.alloc (.cells #[a] t)).cell? ((⟨w.heap.size, 0, none⟩ : Addr).add j) = some u := by
  intro j u hj
  rw [Go.WideShapes.add_plain]
  have hj2 : j = 0 := by
    have := (List.getElem?_eq_some_iff.1 hj).1
    simp at this
    omega
  subst hj2
  simp at hj
  subst hj
  simp
theorem news_four (w : World) (a b c d : Value) (t : TypeId) : ∀ j u, ([a, b, c, d] : List Value)[j]? = some u → (w.alloc (.cells #[a, b, c, d] t)).cell? ((⟨w.heap.size, 0, none⟩ : Addr).add j) = some u := by
  intro j u hj
  rw [Go.WideShapes.add_plain]
  have hj2 : j = 0 ∨ j = 1 ∨ j = 2 ∨ j = 3 := by
    have := (List.getElem?_eq_some_iff.1 hj).1
    simp at this
    omega
  rcases hj2 with rfl | rfl | rfl | rfl <;> (simp at hj; subst hj; simp)
/-- an item's cells, a rank's, an expression's, a column's -/
def EI (n : Nat) (w : World) (it : Int × Ex) (c : List Value) : Prop := ∃ p, c = [.int .i64 it.1, .pointer p] ∧ ExIs n w p it.2
def ER (n : Nat) (w : World) (it : Ex × Bool) (c : List Value) : Prop := ∃ p, c = [.pointer p, .bool it.2] ∧ ExIs n w p it.1
def EP (n : Nat) (w : World) (e : Ex) (c : List Value) : Prop := ∃ p, c = [.pointer p] ∧ ExIs n w p e
def EC (_ : World) (x : Colm) (c : List Value) : Prop := c = [.string x.nm, .int .i64 x.k, .bool x.mu, .bool x.wo]
def ERw (n N : Nat) (w : World) (L : List Ex) (c : List Value) : Prop := ∃ v, c = [v] ∧ RowOf N 26 1 (EP n w) w v L
theorem EI_stays {n A T T' : Nat} (hn : A ≤ n) (hT : T ≠ 48 ∧ T' ≠ 48) : Stays A T T' (EI n) := ⟨fun _ _ _ _ hg ⟨p, e, hx⟩ => ⟨p, e, ExIs.grownN hn hg hx⟩, fun _ _ _ _ hf ⟨p, e, hx⟩ => ⟨p, e, ExIs.xt hT hf hx⟩⟩
theorem ER_stays {n A T T' : Nat} (hn : A ≤ n) (hT : T ≠ 48 ∧ T' ≠ 48) : Stays A T T' (ER n) := ⟨fun _ _ _ _ hg ⟨p, e, hx⟩ => ⟨p, e, ExIs.grownN hn hg hx⟩, fun _ _ _ _ hf ⟨p, e, hx⟩ => ⟨p, e, ExIs.xt hT hf hx⟩⟩
theorem EP_stays {n A T T' : Nat} (hn : A ≤ n) (hT : T ≠ 48 ∧ T' ≠ 48) : Stays A T T' (EP n) := ⟨fun _ _ _ _ hg ⟨p, e, hx⟩ => ⟨p, e, ExIs.grownN hn hg hx⟩, fun _ _ _ _ hf ⟨p, e, hx⟩ => ⟨p, e, ExIs.xt hT hf hx⟩⟩
theorem EC_stays {A T T' : Nat} : Stays A T T' EC := ⟨fun _ _ _ _ _ h => h, fun _ _ _ _ _ h => h⟩
theorem ERw_stays {n N A T T' : Nat} (hn : A ≤ n) (hN : A < N) (hT : (T ≠ 48 ∧ T' ≠ 48) ∧ T ≠ 26 ∧ T' ≠ 26) : Stays A T T' (ERw n N) :=
  ⟨fun _ _ _ _ hg ⟨v, e, hr⟩ => ⟨v, e, hr.fr (X := fun k _ => k = A) (Fr.of_grown (fun _ => rfl) hg) (fun k _ hk _ e => by omega) (fun a c h => (EP_stays hn hT.1).1 _ _ a c hg h)⟩,
   fun _ _ _ _ hf ⟨v, e, hr⟩ => ⟨v, e, hr.fr hf (fun k cs _ _ => by
      rintro ⟨c, fz', e | e⟩
      · cases e; exact hT.2.1 rfl
      · cases e; exact hT.2.2 rfl) (fun a c h => (EP_stays hn hT.1).2 _ _ a c hf h)⟩⟩
theorem infoItem : (Tryz.prog.info? 148).map (fun i => (i.zero, i.size, i.bytes)) = some (some (.agg #[.int .i64 0, .pointer none]), 2, 16) := by kernel_rfl
theorem infoRank : (Tryz.prog.info? 151).map (fun i => (i.zero, i.size, i.bytes)) = some (some (.agg #[.pointer none, .bool false]), 2, 16) := by kernel_rfl
theorem infoPE : (Tryz.prog.info? 26).map (fun i => (i.zero, i.size, i.bytes)) = some (some (.pointer none), 1, 8) := by kernel_rfl
theorem infoCol : (Tryz.prog.info? 115).map (fun i => (i.zero, i.size, i.bytes)) = some (some (.agg #[.string ⟨#[]⟩, .int .i64 0, .bool false, .bool false]), 4, 32) := by kernel_rfl
theorem infoSl : (Tryz.prog.info? 25).map (fun i => (i.zero, i.size, i.bytes)) = some (some (.slice none 0 0), 1, 24) := by kernel_rfl
end Go.Proofs.YtbdcbaamjkjhaaaGreatDoor
namespace Go.Proofs.YtbdcbaamjkjhaaaGreatDoor
open Go.RowKit

/-- what a statement's cells hold -/
structure SV where
  kind : Int
  table : ByteArray
  other : ByteArray
  cols : Value
  name : ByteArray
  rows : Value
  sets : Value
  on : Option Addr
  wh : Option Addr
  items : Value
  grp : Option Addr
  ord : Value
  lim : Int
def SV.cells (s : SV) : Array Value := #[.int .i64 s.kind, .string s.table, .string s.other, s.cols, .string s.name, s.rows, s.sets, .pointer s.on, .pointer s.wh, s.items, .pointer s.grp, s.ord, .int .i64 s.lim]
/-- its rows are rows -/
structure SV.Rows (s : SV) : Prop where
  cols : ∃ a n c, s.cols = .slice a n c
  rows : ∃ a n c, s.rows = .slice a n c
  sets : ∃ a n c, s.sets = .slice a n c
  items : ∃ a n c, s.items = .slice a n c
  ord : ∃ a n c, s.ord = .slice a n c
def svOf (k : Int) (t : ByteArray) : SV := ⟨k, t, ⟨#[]⟩, .slice none 0 0, ⟨#[]⟩, .slice none 0 0, .slice none 0 0, none, none, .slice none 0 0, none, .slice none 0 0, -1⟩
def svZ : SV := ⟨0, ⟨#[]⟩, ⟨#[]⟩, .slice none 0 0, ⟨#[]⟩, .slice none 0 0, .slice none 0 0, none, none, .slice none 0 0, none, .slice none 0 0, 0⟩
theorem svOf_rows (k : Int) (t : ByteArray) : (svOf k t).Rows := ⟨⟨_, _, _, rfl⟩, ⟨_, _, _, rfl⟩, ⟨_, _, _, rfl⟩, ⟨_, _, _, rfl⟩, ⟨_, _, _, rfl⟩⟩
theorem svZ_rows : svZ.Rows := ⟨⟨_, _, _, rfl⟩, ⟨_, _, _, rfl⟩, ⟨_, _, _, rfl⟩, ⟨_, _, _, rfl⟩, ⟨_, _, _, rfl⟩⟩
theorem SV.Rows.one {s : SV} (h : s.Rows) : s.cells.all (·.oneCell') = true := by
  obtain ⟨⟨a, n, c, h1⟩, ⟨a2, n2, c2, h2⟩, ⟨a3, n3, c3, h3⟩, ⟨a4, n4, c4, h4⟩, ⟨a5, n5, c5, h5⟩⟩ := h
  unfold SV.cells
  rw [h1, h2, h3, h4, h5]
  rw [List.all_toArray]
  rfl
theorem s30 (s : SV) : (Tryz.prog.info? 30).map (·.size) = some s.cells.size := by
  have h : (Tryz.prog.info? 30).map (·.size) = some 13 := by kernel_rfl
  rw [h]; rfl
theorem Blk.there {b T : Nat} {cs : Array Value} {w : World} (h : Blk b cs T w) {n : Nat} (hn : cs.size = n) : w.there b 0 n := fun j hj => by
  refine ⟨?_, ?_⟩
  · rw [h.cell (0 + j), Nat.zero_add]
    simp [hn, hj]
  · exact h.free _
theorem Blk.range {b T : Nat} {cs : Array Value} {w : World} (h : Blk b cs T w) : w.rangeAt b 0 cs.toList := fun j v hj => by
  rw [h.cell (0 + j), Nat.zero_add, ← hj]; simp
def setA (a : Array Value) : Nat → List Value → Array Value
  | _, [] => a
  | o, v :: r => setA (a.setIfInBounds o v) (o + 1) r
theorem Blk.sets {b T : Nat} (vs : List Value) : ∀ {cs : Array Value} {w : World} (o : Nat), Blk b cs T w → Blk b (setA cs o vs) T (w.setCells b o vs) := by
  induction vs with
  | nil => intro cs w o h; exact h
  | cons v r ih => intro cs w o h; exact ih (o + 1) (h.set o v)
theorem setA_cells (s s' : SV) : setA s.cells 0 s'.cells.toList = s'.cells := by simp [setA, SV.cells]
theorem Blk.stored {b T : Nat} {s s' : SV} {w : World} (h : Blk b s.cells T w) : Blk b s'.cells T (w.setCells b 0 s'.cells.toList) := by
  have := Blk.sets (T := T) s'.cells.toList 0 h
  rw [setA_cells] at this
  exact this
theorem Blk.othersN {b c T : Nat} {cs : Array Value} (vs : List Value) : ∀ {w : World} (o : Nat), Blk c cs T w → b ≠ c → Blk c cs T (w.setCells b o vs) := by
  induction vs with
  | nil => intro w o h _; exact h
  | cons v r ih => intro w o h hb; exact ih (o + 1) (h.other hb o v) hb
theorem RdIs.setsN {A b : Nat} {l : List KT} (vs : List Value) : ∀ {w : World} (o : Nat), RdIs A l w → A < b → RdIs A l (w.setCells b o vs) := by
  induction vs with
  | nil => intro w o h _; exact h
  | cons v r ih => intro w o h hb; exact ih (o + 1) (h.set hb o v) hb
theorem grown_sets {A b : Nat} {w0 : World} (vs : List Value) : ∀ {w : World} (o : Nat), w0.grownBy w (some A) → w0.heap.size ≤ b → w0.grownBy (w.setCells b o vs) (some A) := by
  induction vs with
  | nil => intro w o h _; exact h
  | cons v r ih => intro w o h hb; exact ih (o + 1) (grown_new h hb o v) hb
theorem below_sets {n b : Nat} {w0 : World} (vs : List Value) : ∀ {w : World} (o : Nat), Below n w0 w → n ≤ b → Below n w0 (w.setCells b o vs) := by
  induction vs with
  | nil => intro w o h _; exact h
  | cons v r ih => intro w o h hb; exact ih (o + 1) (h.setCell hb v) hb
theorem fr_sets {b T : Nat} (vs : List Value) : ∀ {cs : Array Value} {w : World} (o : Nat), Blk b cs T w → Fr (fun _ ob => ∃ c fz, ob = .cells c T fz) w (w.setCells b o vs) := by
  induction vs with
  | nil => intro cs w o _; exact Fr.refl _ _
  | cons v r ih =>
    intro cs w o h
    refine Fr.trans (w1 := w.setCell ⟨b, o, none⟩ v) ?_ (ih (o + 1) (h.set o v))
    intro k ob hk hx
    by_cases e : k = b
    · subst e
      have h' : w.heap[k]? = _ := h
      rw [h'] at hk
      cases hk
      exact absurd ⟨_, _, rfl⟩ hx
    · rw [Below.heap_setCell w ⟨b, o, none⟩ v k (fun e' => e (by simpa using e'))]; exact hk
theorem load30 {b : Nat} {s : SV} {w : World} (h : Blk b s.cells 30 w) : (loadVar 30 ⟨b, 0, none⟩).run Tryz.prog w = .ok (.agg s.cells) w := by
  have := run_loadVar_mid (P := Tryz.prog) w b 0 30 s.cells.toList _ h.range Tryz.underlying30 rfl (s30 s)
  simpa using this
set_option maxRecDepth 100000 in
set_option maxHeartbeats 4000000 in
theorem of_any (k : Int) (t : ByteArray) (w : World) : Calls Tryz.prog 88 #[.int .i64 k, .string t] w fun e w' => e = .returned (.agg (svOf k t).cells) ∧ Below w.heap.size w w' := by
  have hk : Blk w.heap.size svZ.cells 30 (w.alloc (.cells svZ.cells 30)) := Blk.new _ _ _
  have HK : Hid (Blk w.heap.size svZ.cells 30 (w.alloc (.cells svZ.cells 30))) := hk
  clear hk
  go_enter Tryz.func88, Tryz.ntmps88
  go_wp2_with (refine wpList_store_mid rfl 30 _ _ rfl _ 0 (svOf k t).cells rfl rfl (HK.out.there rfl) (s30 _) (svOf_rows k t).one ?_)
  refine bodyPost_ret (v := .agg (svOf k t).cells) (results_c Tryz.results88 _ _ _ rfl ?_) rfl ?_
  · exact load30 HK.out.stored
  · exact ⟨rfl, below_sets _ 0 ((Below.refl _ _).alloc (Nat.le_refl _) _) (Nat.le_refl _)⟩
end Go.Proofs.YtbdcbaamjkjhaaaGreatDoor
