/- Part 5 of 30. -/
import Derived.Test.YtmabfbffpedfnaaGreatDoorK04
import Derived.Deep.RegionLaw
import Derived.Deep.DrawnRows
attribute [local go_sem ↓] Go.wp_at_zero Go.wp_at_succ
namespace Go.Proofs.YtmabfbffpedfnaaGreatDoor
open Go.RowKit

set_option maxRecDepth 100000 in
set_option maxHeartbeats 32000000 in
theorem one_p (hPI : PIntSpec) {E : Rf Ex} {n : Nat} (hn13 : n ≤ 13) (hE : n ≤ 12 → ESpec E (n + 1)) (hEr : Reads E) (A : Nat) (l : List KT) (w : World) (h : RdIs A l w) (hc : isT ⟨#[40]⟩ l = true) : Calls Tryz.prog 168 #[.pointer (some ⟨A, 0, none⟩), .int .i64 (n : Int)] w fun e w' => Told A (oneD n E l) w e w' := by
  have HE : Hid (PIntSpec ∧ (n ≤ 12 → ESpec E (n + 1)) ∧ Reads E) := ⟨hPI, hE, hEr⟩
  obtain ⟨V, hV⟩ : ∃ V, (w.alloc (.cells #[.pointer (some ⟨A, 0, none⟩)] 117)).alloc (.cells #[.int .i64 (n : Int)] 3) = V := ⟨_, rfl⟩
  have hVb : Below w.heap.size w V := by rw [← hV]; exact ((Below.refl _ _).alloc (Nat.le_refl _) _).alloc (by simp) _
  have hbx : BoxAt A w.heap.size (w.heap.size + 1) n V := by rw [← hV]; exact box_new n h.lt
  have HV : Hid (RdIs A l V ∧ BoxAt A w.heap.size (w.heap.size + 1) n V ∧ w.grownBy V (some A) ∧ A < w.heap.size) := ⟨h.below hVb, hbx, grown_of_belowA hVb _, h.lt⟩
  have HBx : Hid (∀ wx, V.grownBy wx (some A) → wx.cell? ⟨w.heap.size, 0, none⟩ = some (.pointer (some ⟨A, 0, none⟩)) ∧ wx.cell? ⟨w.heap.size + 1, 0, none⟩ = some (.int .i64 (n : Int))) := fun wx hg => ⟨(hbx.grown hg).cx, (hbx.grown hg).cy⟩
  obtain ⟨q0, hq0⟩ : ∃ q0, w.heap.size - 1 = q0 := ⟨_, rfl⟩
  have HQ : Hid (q0 < w.heap.size) := by have := h.lt; show _ < _; omega
  have HQe : Hid (w.heap.size - 1 = q0) := hq0
  obtain ⟨R, hR⟩ : ∃ R, oneD n E l = R := ⟨_, rfl⟩
  have HR : Hid ((n ≤ 12 → oneF E l = R) ∧ (¬ n ≤ 12 → R = none)) := by
    rw [← hR]; unfold oneD
    exact ⟨fun h => (if_pos h).symm, fun h => if_neg h⟩
  unfold Told
  rw [hR, hq0]
  generalize hk : (hdT l).1 = k
  generalize ht : (hdT l).2 = t
  have HK : Hid ((hdT l).1 = k ∧ (hdT l).2 = t) := ⟨hk, ht⟩
  obtain ⟨b1, hb1⟩ : ∃ b, isT ⟨#[40]⟩ l = b := ⟨_, rfl⟩
  obtain ⟨b2, hb2⟩ : ∃ b, isT ⟨#[110, 117, 108, 108]⟩ l = b := ⟨_, rfl⟩
  obtain ⟨b5, hb5⟩ : ∃ b, nameB l = b := ⟨_, rfl⟩
  have HT : Hid (isT ⟨#[40]⟩ l = b1 ∧ isT ⟨#[110, 117, 108, 108]⟩ l = b2 ∧ nameB l = b5) := ⟨hb1, hb2, hb5⟩
  have h1 := hbx.cx
  have h2 := hbx.cy
  have hn13' : (n : Int) ≤ 13 := by omega
  have hf := field0 k
  have hka : b1 = true → k = 1 ∨ k = 4 := fun e => by rw [← hk]; exact (isT_k (by rw [hb1, e])).1
  have hkb : b2 = true → k = 1 ∨ k = 4 := fun e => by rw [← hk]; exact (isT_k (by rw [hb2, e])).1
  have hkc : b5 = true → k = 1 := fun e => by
    rw [e] at hb5
    simp only [nameB, Bool.and_eq_true, decide_eq_true_eq] at hb5
    rw [← hk]; exact hb5.1
  have hkd : b1 = true → b2 = false := fun e => by
    cases hh : b2 with
    | false => rfl
    | true =>
      have e1 := (isT_k (by rw [hb1, e])).2
      have e2 := (isT_k (by rw [hb2, hh])).2
      rw [e1] at e2
      exact absurd e2 (by decide)
  have hAw := h.lt
  clear h hPI hE hEr hbx hVb hR hq0 hk ht hb1 hb2 hb5
  go_enter Tryz.func168, Tryz.ntmps168
  go_wp2_with fail
  refine (now_any A l V HV.out.1).mono ?_
  rintro _ w1 ⟨⟨p, rfl⟩, hb1⟩
  rw [HK.out.1, HK.out.2]
  have HB : Hid (Below V.heap.size V w1) := hb1
  have HG0 : Hid (∀ wx, Below V.heap.size V wx → V.grownBy wx (some A) ∧ RdIs A l wx) := fun wx hb => ⟨grown_of_belowA hb _, HV.out.1.below hb⟩
  obtain ⟨c1, c2⟩ := HBx.out w1 (grown_of_belowA hb1 _)
  clear hb1 h1 h2 hV
  generalize hWB : w.heap.size = B at *
  obtain rfl : b1 = true := by rw [← HT.out.1]; exact hc
  have hk14 := hka rfl
  obtain rfl : b2 = false := hkd rfl
  have hk2 : k ≠ 2 ∧ k ≠ 3 := by omega
  have HK2 : Hid ((hdT l).1 ≠ 2 ∧ (hdT l).1 ≠ 3) := by rw [HK.out.1]; exact hk2
  have d2 : (k == 2) = false := by rw [beq_eq_false_iff_ne]; exact hk2.1
  have d3 : (k == 3) = false := by rw [beq_eq_false_iff_ne]; exact hk2.2
  clear hk14 hka hkb hkc hkd hk2 hc
  go_wp2_with fail
  have HB : Hid (Below V.heap.size V w1.drew) := HB.out.drew
  have HC : Hid (w.heap.size = B ∧ A < B ∧ n ≤ 13 ∧ (n : Int) ≤ 13) := ⟨hWB, hAw, hn13, hn13'⟩
  clear hWB hAw hn13' hf hn13
  refine wp_region_held_drew (S := fun w' => w'.cell? ⟨B, 0, none⟩ = some (.pointer (some ⟨A, 0, none⟩))) (by kernel_rfl) (HBx.out _ (HG0.out _ HB.out).1).1 (fun hHeld => ?_)
  refine wpAnyH_take (i := 0) (oi := { dst := some 10, op := Op.load 117 (Operand.tmp 2), type := 117, pos := "expr.go:71", after := #[], guard := none }) (v := (.pointer (some ⟨A, 0, none⟩))) rfl (by kernel_rfl) (by kernel_rfl) (by kernel_rfl) (fun _ _ _ h => h) (Or.inl ⟨by rfl, fun w' hSw => ?_⟩) hHeld ?_
  · (try dsimp only at hSw)
    go_simp
  simp only [Act.put, List.setIfInBounds_toArray, List.set_cons_zero, List.set_cons_succ]
  refine wpAnyH_take (i := 1) (oi := { dst := some 11, op := Op.load 117 (Operand.tmp 2), type := 117, pos := "expr.go:71", after := #[], guard := none }) (v := (.pointer (some ⟨A, 0, none⟩))) rfl (by kernel_rfl) (by kernel_rfl) (by kernel_rfl) (fun _ _ _ h => h) (Or.inl ⟨by rfl, fun w' hSw => ?_⟩) hHeld ?_
  · (try dsimp only at hSw)
    go_simp
  simp only [Act.put, List.setIfInBounds_toArray, List.set_cons_zero, List.set_cons_succ]
  refine wpAnyH_ready (rs := [2]) (by kernel_rfl) (by simp) ?_
  refine AllReadyH.cons (o := { dst := some 12, op := Op.call { callee := Callee.value (Operand.func 91), args := #[Operand.tmp 11, Operand.const (Value.string { data := #[40] })], argTypes := #[117, 9] }, type := 4, pos := "expr.go:71", after := #[{ on := 1, ground := Ground.data }], guard := none }) rfl (fun K hK => ?_) AllReadyH.nil
  clear hHeld
  go_simp
  refine (is_any A l _ true HT.out.1 _ (HG0.out _ HB.out).2).mono ?_
  rintro _ w10 ⟨rfl, hb10⟩
  have HB : Hid (Below V.heap.size V w10) := HB.out.trans (hb10.mono HB.out.size)
  clear hb10
  go_simp
  refine hK.out _ _ (HBx.out _ (HG0.out _ HB.out).1).1 (fun hHeld => ?_)
  clear hK K
  refine wpAnyH_take (i := 3) (oi := { dst := some 13, op := Op.move (Operand.tmp 12), type := 4, pos := "expr.go:71", after := #[{ on := 2, ground := Ground.data }, { on := 2, ground := Ground.chain }], guard := none }) (v := (.bool true)) rfl (by kernel_rfl) (by kernel_rfl) (by kernel_rfl) (fun _ _ _ h => h) (Or.inl ⟨by rfl, fun w' hSw => ?_⟩) hHeld ?_
  · (try dsimp only at hSw)
    go_simp
  simp only [Act.put, List.setIfInBounds_toArray, List.set_cons_zero, List.set_cons_succ]
  refine wpAnyH_take (i := 4) (oi := { dst := some 14, op := Op.load 117 (Operand.tmp 2), type := 117, pos := "expr.go:71", after := #[{ on := 3, ground := Ground.guard }], guard := some (3, false) }) (v := undef) rfl (by kernel_rfl) (by kernel_rfl) (by kernel_rfl) (fun _ _ _ h => h) (Or.inr ⟨by rfl, rfl⟩) hHeld ?_
  simp only [Act.put, List.setIfInBounds_toArray, List.set_cons_zero, List.set_cons_succ]
  refine wpAnyH_take (i := 5) (oi := { dst := some 15, op := Op.call { callee := Callee.value (Operand.func 91), args := #[Operand.tmp 14, Operand.const (Value.string { data := #[110, 117, 108, 108] })], argTypes := #[117, 9] }, type := 4, pos := "expr.go:71", after := #[{ on := 4, ground := Ground.data }, { on := 3, ground := Ground.chain }, { on := 3, ground := Ground.guard }], guard := some (3, false) }) (v := undef) rfl (by kernel_rfl) (by kernel_rfl) (by kernel_rfl) (fun _ _ _ h => h) (Or.inr ⟨by rfl, rfl⟩) hHeld ?_
  simp only [Act.put, List.setIfInBounds_toArray, List.set_cons_zero, List.set_cons_succ]
  refine wpAnyH_take (i := 6) (oi := { dst := some 16, op := Op.pick (Operand.tmp 13) (Operand.const (Value.bool true)) (Operand.tmp 15), type := 4, pos := "expr.go:71", after := #[{ on := 3, ground := Ground.data }, { on := 5, ground := Ground.data }], guard := none }) (v := (.bool true)) rfl (by kernel_rfl) (by kernel_rfl) (by kernel_rfl) (fun _ _ _ h => h) (Or.inl ⟨by rfl, fun w' hSw => ?_⟩) hHeld ?_
  · (try dsimp only at hSw)
    go_simp
  simp only [Act.put, List.setIfInBounds_toArray, List.set_cons_zero, List.set_cons_succ]
  refine wpAnyH_take (i := 7) (oi := { dst := some 17, op := Op.move (Operand.tmp 16), type := 4, pos := "expr.go:71", after := #[{ on := 6, ground := Ground.data }, { on := 5, ground := Ground.chain }], guard := none }) (v := (.bool true)) rfl (by kernel_rfl) (by kernel_rfl) (by kernel_rfl) (fun _ _ _ h => h) (Or.inl ⟨by rfl, fun w' hSw => ?_⟩) hHeld ?_
  · (try dsimp only at hSw)
    go_simp
  simp only [Act.put, List.setIfInBounds_toArray, List.set_cons_zero, List.set_cons_succ]
  refine wpAnyH_take (i := 8) (oi := { dst := some 18, op := Op.move (Operand.tmp 5), type := 3, pos := "expr.go:71", after := #[{ on := 7, ground := Ground.guard }], guard := some (7, false) }) (v := undef) rfl (by kernel_rfl) (by kernel_rfl) (by kernel_rfl) (fun _ _ _ h => h) (Or.inr ⟨by rfl, rfl⟩) hHeld ?_
  simp only [Act.put, List.setIfInBounds_toArray, List.set_cons_zero, List.set_cons_succ]
  refine wpAnyH_take (i := 9) (oi := { dst := some 19, op := Op.binOp BinOp.eql 3 (Operand.tmp 18) (Operand.const (Value.int IntKind.i64 2)) 3, type := 4, pos := "expr.go:71", after := #[{ on := 8, ground := Ground.data }, { on := 7, ground := Ground.guard }], guard := some (7, false) }) (v := undef) rfl (by kernel_rfl) (by kernel_rfl) (by kernel_rfl) (fun _ _ _ h => h) (Or.inr ⟨by rfl, rfl⟩) hHeld ?_
  simp only [Act.put, List.setIfInBounds_toArray, List.set_cons_zero, List.set_cons_succ]
  refine wpAnyH_take (i := 10) (oi := { dst := some 20, op := Op.pick (Operand.tmp 17) (Operand.const (Value.bool true)) (Operand.tmp 19), type := 4, pos := "expr.go:71", after := #[{ on := 7, ground := Ground.data }, { on := 9, ground := Ground.data }], guard := none }) (v := (.bool true)) rfl (by kernel_rfl) (by kernel_rfl) (by kernel_rfl) (fun _ _ _ h => h) (Or.inl ⟨by rfl, fun w' hSw => ?_⟩) hHeld ?_
  · (try dsimp only at hSw)
    go_simp
  simp only [Act.put, List.setIfInBounds_toArray, List.set_cons_zero, List.set_cons_succ]
  refine wpAnyH_take (i := 11) (oi := { dst := some 21, op := Op.move (Operand.tmp 20), type := 4, pos := "expr.go:71", after := #[{ on := 10, ground := Ground.data }, { on := 7, ground := Ground.chain }], guard := none }) (v := (.bool true)) rfl (by kernel_rfl) (by kernel_rfl) (by kernel_rfl) (fun _ _ _ h => h) (Or.inl ⟨by rfl, fun w' hSw => ?_⟩) hHeld ?_
  · (try dsimp only at hSw)
    go_simp
  simp only [Act.put, List.setIfInBounds_toArray, List.set_cons_zero, List.set_cons_succ]
  refine wpAnyH_take (i := 12) (oi := { dst := some 22, op := Op.move (Operand.tmp 5), type := 3, pos := "expr.go:71", after := #[{ on := 11, ground := Ground.guard }], guard := some (11, false) }) (v := undef) rfl (by kernel_rfl) (by kernel_rfl) (by kernel_rfl) (fun _ _ _ h => h) (Or.inr ⟨by rfl, rfl⟩) hHeld ?_
  simp only [Act.put, List.setIfInBounds_toArray, List.set_cons_zero, List.set_cons_succ]
  refine wpAnyH_take (i := 13) (oi := { dst := some 23, op := Op.binOp BinOp.eql 3 (Operand.tmp 22) (Operand.const (Value.int IntKind.i64 3)) 3, type := 4, pos := "expr.go:71", after := #[{ on := 12, ground := Ground.data }, { on := 11, ground := Ground.guard }], guard := some (11, false) }) (v := undef) rfl (by kernel_rfl) (by kernel_rfl) (by kernel_rfl) (fun _ _ _ h => h) (Or.inr ⟨by rfl, rfl⟩) hHeld ?_
  simp only [Act.put, List.setIfInBounds_toArray, List.set_cons_zero, List.set_cons_succ]
  refine wpAnyH_take (i := 14) (oi := { dst := some 24, op := Op.pick (Operand.tmp 21) (Operand.const (Value.bool true)) (Operand.tmp 23), type := 4, pos := "expr.go:71", after := #[{ on := 11, ground := Ground.data }, { on := 13, ground := Ground.data }], guard := none }) (v := (.bool true)) rfl (by kernel_rfl) (by kernel_rfl) (by kernel_rfl) (fun _ _ _ h => h) (Or.inl ⟨by rfl, fun w' hSw => ?_⟩) hHeld ?_
  · (try dsimp only at hSw)
    go_simp
  simp only [Act.put, List.setIfInBounds_toArray, List.set_cons_zero, List.set_cons_succ]
  refine wpAnyH_take (i := 15) (oi := { dst := some 25, op := Op.move (Operand.tmp 24), type := 4, pos := "expr.go:71", after := #[{ on := 14, ground := Ground.data }, { on := 11, ground := Ground.chain }], guard := none }) (v := (.bool true)) rfl (by kernel_rfl) (by kernel_rfl) (by kernel_rfl) (fun _ _ _ h => h) (Or.inl ⟨by rfl, fun w' hSw => ?_⟩) hHeld ?_
  · (try dsimp only at hSw)
    go_simp
  simp only [Act.put, List.setIfInBounds_toArray, List.set_cons_zero, List.set_cons_succ]
  refine wpAnyH_take (i := 16) (oi := { dst := some 26, op := Op.load 117 (Operand.tmp 2), type := 117, pos := "expr.go:71", after := #[{ on := 15, ground := Ground.guard }], guard := some (15, false) }) (v := undef) rfl (by kernel_rfl) (by kernel_rfl) (by kernel_rfl) (fun _ _ _ h => h) (Or.inr ⟨by rfl, rfl⟩) hHeld ?_
  simp only [Act.put, List.setIfInBounds_toArray, List.set_cons_zero, List.set_cons_succ]
  refine wpAnyH_take (i := 17) (oi := { dst := some 27, op := Op.call { callee := Callee.value (Operand.func 103), args := #[Operand.tmp 26], argTypes := #[117] }, type := 4, pos := "expr.go:71", after := #[{ on := 16, ground := Ground.data }, { on := 15, ground := Ground.chain }, { on := 15, ground := Ground.guard }], guard := some (15, false) }) (v := undef) rfl (by kernel_rfl) (by kernel_rfl) (by kernel_rfl) (fun _ _ _ h => h) (Or.inr ⟨by rfl, rfl⟩) hHeld ?_
  simp only [Act.put, List.setIfInBounds_toArray, List.set_cons_zero, List.set_cons_succ]
  refine wpAnyH_take (i := 18) (oi := { dst := some 28, op := Op.pick (Operand.tmp 25) (Operand.const (Value.bool true)) (Operand.tmp 27), type := 4, pos := "expr.go:71", after := #[{ on := 15, ground := Ground.data }, { on := 17, ground := Ground.data }], guard := none }) (v := (.bool true)) rfl (by kernel_rfl) (by kernel_rfl) (by kernel_rfl) (fun _ _ _ h => h) (Or.inl ⟨by rfl, fun w' hSw => ?_⟩) hHeld ?_
  · (try dsimp only at hSw)
    go_simp
  simp only [Act.put, List.setIfInBounds_toArray, List.set_cons_zero, List.set_cons_succ]
  refine wpAnyH_ready (rs := [19]) (by kernel_rfl) (by simp) ?_
  refine AllReadyH.cons (o := { dst := some 29, op := Op.call { callee := Callee.value (Operand.func 68), args := #[Operand.tmp 10, Operand.tmp 28], argTypes := #[117, 4] }, type := 0, pos := "expr.go:71", after := #[{ on := 0, ground := Ground.data }, { on := 18, ground := Ground.data }, { on := 17, ground := Ground.chain }], guard := none }) rfl (fun K hK => ?_) AllReadyH.nil
  clear hHeld
  go_simp
  refine (must_yes A _).mono ?_
  rintro _ w12 ⟨rfl, hw12⟩
  subst hw12
  go_simp
  refine hK.out _ _ (HBx.out _ (HG0.out _ HB.out).1).1 (fun hHeld => ?_)
  clear hK K
  refine wpAnyH_done (by kernel_rfl) ?_ _
  obtain ⟨y1, y2⟩ := HBx.out _ (HG0.out _ HB.out).1
  have hWB := HC.out.1
  obtain rfl := hWB
  clear c1 c2
  go_wp2_with fail
  by_cases hn : n ≤ 12
  · refine (most_yes A (n : Int) 12 (by omega) _).mono ?_
    rintro _ w3 ⟨rfl, hw3⟩
    subst hw3
    have H3 : Hid (RdIs A l w3 ∧ w.grownBy w3 (some A) ∧ BoxAt A w.heap.size (w.heap.size + 1) n w3) := ⟨(HG0.out _ HB.out).2, HV.out.2.2.1.trans (HG0.out _ HB.out).1, HV.out.2.1.grown (HG0.out _ HB.out).1⟩
    have HR3 : Hid (oneF E l = R) := HR.out.1 hn
    have HEn : Hid (ESpec E (n + 1) ∧ n ≤ 12) := ⟨HE.out.2.1 hn, hn⟩
    clear hn
    go_wp2_with fail
    refine (has_any A l ⟨#[110, 117, 108, 108]⟩ false HT.out.2.1 w3 H3.out.1).mono ?_
    rintro _ w4 ⟨rfl, hr4, hg4⟩
    have H4 : Hid (RdIs A l w4 ∧ w.grownBy w4 (some A) ∧ BoxAt A w.heap.size (w.heap.size + 1) n w4) := ⟨hr4, H3.out.2.1.trans hg4, H3.out.2.2.grown hg4⟩
    have x1 := H4.out.2.2.cx
    clear hr4 hg4 y1 y2
    go_wp2_with fail
    refine (is_any A l ⟨#[40]⟩ true HT.out.1 w4 H4.out.1).mono ?_
    rintro _ w5 ⟨rfl, hb5⟩
    have H5 : Hid (RdIs A l w5 ∧ w.grownBy w5 (some A) ∧ BoxAt A w.heap.size (w.heap.size + 1) n w5) := ⟨H4.out.1.below hb5, H4.out.2.1.trans (grown_of_belowA hb5 _), H4.out.2.2.grown (grown_of_belowA hb5 _)⟩
    have x2 := H5.out.2.2.cx
    clear hb5 x1
    obtain ⟨U, hU⟩ : ∃ U, w5.alloc (.cells #[.pointer none] 26) = U := ⟨_, rfl⟩
    have hbU : Below w5.heap.size w5 U := by rw [← hU]; exact (Below.refl _ _).alloc (Nat.le_refl _) _
    have hkU : Blk w5.heap.size #[.pointer none] 26 U := by rw [← hU]; exact Blk.new _ _ _
    have x3 := (H5.out.2.2.grown (grown_of_belowA hbU _)).cx
    have HU : Hid (PreO A w.heap.size (w.heap.size + 1) w5.heap.size n w l U) := ⟨H5.out.1.below hbU, H5.out.2.2.grown (grown_of_belowA hbU _), H5.out.2.1.trans (grown_of_belowA hbU _), H5.out.2.1.size, HV.out.2.2.2, hkU⟩
    clear hbU hkU x2
    go_wp2_with fail
    refine (inO_any HEn.out.1 A _ _ _ w HEn.out.2 l U HU.out).mono ?_
    rintro _ w6 (⟨a, l6, hs6, rfl, hr6, hg6, _, p6, hk6, hx6⟩ | ⟨hs6, ⟨n1, m1, rfl⟩, hg6⟩)
    · rw [HQe.out] at hx6
      have HR6 : Hid (R = some (a, l6) ∧ w.grownBy w6 (some A) ∧ ExIs q0 w6 p6 a ∧ RdIs A l6 w6) := ⟨by rw [← HR3.out, one_par HK2.out.1 HK2.out.2 HT.out.2.1 HT.out.1]; exact hs6, hg6, hx6, hr6⟩
      have x6 : w6.cell? ⟨w5.heap.size, 0, none⟩ = some (.pointer p6) := by rw [hk6.cell 0]; rfl
      clear hs6 hr6 hg6 hk6 hx6
      go_wp2
      go_ret
      exact ⟨HR6.out.2.1, .inl ⟨_, _, _, HR6.out.1, rfl, HR6.out.2.2⟩⟩
    · have HR6 : Hid (R = none ∧ w.grownBy w6 (some A)) := ⟨by rw [← HR3.out, one_par HK2.out.1 HK2.out.2 HT.out.2.1 HT.out.1]; exact hs6, hg6⟩
      clear hs6 hg6
      go_wp2
      exact ⟨by first | rfl | trivial, HR6.out.2, .inr ⟨HR6.out.1, n1, m1, rfl⟩⟩
  · refine (most_no A l (n : Int) 12 (by omega) _ (HG0.out _ HB.out).2).mono ?_
    rintro _ w4 ⟨⟨n1, m1, rfl⟩, hb4⟩
    have HG : Hid (w.grownBy w4 (some A) ∧ R = none) := ⟨(HV.out.2.2.1.trans (HG0.out _ HB.out).1).trans (grown_of_belowA hb4 _), HR.out.2 hn⟩
    clear hb4
    go_wp2
    exact ⟨by first | rfl | trivial, HG.out.1, .inr ⟨HG.out.2, n1, m1, rfl⟩⟩
end Go.Proofs.YtmabfbffpedfnaaGreatDoor
attribute [local go_sem ↓] Go.wp_at_zero Go.wp_at_succ
namespace Go.Proofs.YtmabfbffpedfnaaGreatDoor
open Go.RowKit

set_option maxRecDepth 100000 in
set_option maxHeartbeats 32000000 in
theorem one_c (hPI : PIntSpec) {E : Rf Ex} {n : Nat} (hn13 : n ≤ 13) (hE : n ≤ 12 → ESpec E (n + 1)) (hEr : Reads E) (A : Nat) (l : List KT) (w : World) (h : RdIs A l w) (hc : nameB l = true ∧ isT ⟨#[110, 117, 108, 108]⟩ l = false ∧ isT ⟨#[40]⟩ l = false) : Calls Tryz.prog 168 #[.pointer (some ⟨A, 0, none⟩), .int .i64 (n : Int)] w fun e w' => Told A (oneD n E l) w e w' := by
  have HE : Hid (PIntSpec ∧ (n ≤ 12 → ESpec E (n + 1)) ∧ Reads E) := ⟨hPI, hE, hEr⟩
  obtain ⟨V, hV⟩ : ∃ V, (w.alloc (.cells #[.pointer (some ⟨A, 0, none⟩)] 117)).alloc (.cells #[.int .i64 (n : Int)] 3) = V := ⟨_, rfl⟩
  have hVb : Below w.heap.size w V := by rw [← hV]; exact ((Below.refl _ _).alloc (Nat.le_refl _) _).alloc (by simp) _
  have hbx : BoxAt A w.heap.size (w.heap.size + 1) n V := by rw [← hV]; exact box_new n h.lt
  have HV : Hid (RdIs A l V ∧ BoxAt A w.heap.size (w.heap.size + 1) n V ∧ w.grownBy V (some A) ∧ A < w.heap.size) := ⟨h.below hVb, hbx, grown_of_belowA hVb _, h.lt⟩
  have HBx : Hid (∀ wx, V.grownBy wx (some A) → wx.cell? ⟨w.heap.size, 0, none⟩ = some (.pointer (some ⟨A, 0, none⟩)) ∧ wx.cell? ⟨w.heap.size + 1, 0, none⟩ = some (.int .i64 (n : Int))) := fun wx hg => ⟨(hbx.grown hg).cx, (hbx.grown hg).cy⟩
  obtain ⟨q0, hq0⟩ : ∃ q0, w.heap.size - 1 = q0 := ⟨_, rfl⟩
  have HQ : Hid (q0 < w.heap.size) := by have := h.lt; show _ < _; omega
  have HQe : Hid (w.heap.size - 1 = q0) := hq0
  obtain ⟨R, hR⟩ : ∃ R, oneD n E l = R := ⟨_, rfl⟩
  have HR : Hid ((n ≤ 12 → oneF E l = R) ∧ (¬ n ≤ 12 → R = none)) := by
    rw [← hR]; unfold oneD
    exact ⟨fun h => (if_pos h).symm, fun h => if_neg h⟩
  unfold Told
  rw [hR, hq0]
  generalize hk : (hdT l).1 = k
  generalize ht : (hdT l).2 = t
  have HK : Hid ((hdT l).1 = k ∧ (hdT l).2 = t) := ⟨hk, ht⟩
  obtain ⟨b1, hb1⟩ : ∃ b, isT ⟨#[40]⟩ l = b := ⟨_, rfl⟩
  obtain ⟨b2, hb2⟩ : ∃ b, isT ⟨#[110, 117, 108, 108]⟩ l = b := ⟨_, rfl⟩
  obtain ⟨b5, hb5⟩ : ∃ b, nameB l = b := ⟨_, rfl⟩
  have HT : Hid (isT ⟨#[40]⟩ l = b1 ∧ isT ⟨#[110, 117, 108, 108]⟩ l = b2 ∧ nameB l = b5) := ⟨hb1, hb2, hb5⟩
  have h1 := hbx.cx
  have h2 := hbx.cy
  have hn13' : (n : Int) ≤ 13 := by omega
  have hf := field0 k
  have hka : b1 = true → k = 1 ∨ k = 4 := fun e => by rw [← hk]; exact (isT_k (by rw [hb1, e])).1
  have hkb : b2 = true → k = 1 ∨ k = 4 := fun e => by rw [← hk]; exact (isT_k (by rw [hb2, e])).1
  have hkc : b5 = true → k = 1 := fun e => by
    rw [e] at hb5
    simp only [nameB, Bool.and_eq_true, decide_eq_true_eq] at hb5
    rw [← hk]; exact hb5.1
  have hkd : b1 = true → b2 = false := fun e => by
    cases hh : b2 with
    | false => rfl
    | true =>
      have e1 := (isT_k (by rw [hb1, e])).2
      have e2 := (isT_k (by rw [hb2, hh])).2
      rw [e1] at e2
      exact absurd e2 (by decide)
  have hAw := h.lt
  clear h hPI hE hEr hbx hVb hR hq0 hk ht hb1 hb2 hb5
  go_enter Tryz.func168, Tryz.ntmps168
  go_wp2_with fail
  refine (now_any A l V HV.out.1).mono ?_
  rintro _ w1 ⟨⟨p, rfl⟩, hb1⟩
  rw [HK.out.1, HK.out.2]
  have HB : Hid (Below V.heap.size V w1) := hb1
  have HG0 : Hid (∀ wx, Below V.heap.size V wx → V.grownBy wx (some A) ∧ RdIs A l wx) := fun wx hb => ⟨grown_of_belowA hb _, HV.out.1.below hb⟩
  obtain ⟨c1, c2⟩ := HBx.out w1 (grown_of_belowA hb1 _)
  clear hb1 h1 h2 hV
  generalize hWB : w.heap.size = B at *
  obtain rfl : b5 = true := by rw [← HT.out.2.2]; exact hc.1
  have hk14 := hkc rfl
  obtain rfl : b2 = false := by rw [← HT.out.2.1]; exact hc.2.1
  obtain rfl : b1 = false := by rw [← HT.out.1]; exact hc.2.2
  have hk2 : k ≠ 2 ∧ k ≠ 3 := by omega
  have HK2 : Hid ((hdT l).1 ≠ 2 ∧ (hdT l).1 ≠ 3) := by rw [HK.out.1]; exact hk2
  have d2 : (k == 2) = false := by rw [beq_eq_false_iff_ne]; exact hk2.1
  have d3 : (k == 3) = false := by rw [beq_eq_false_iff_ne]; exact hk2.2
  clear hk14 hka hkb hkc hkd hk2 hc
  go_wp2_with fail
  have HB : Hid (Below V.heap.size V w1.drew) := HB.out.drew
  have HC : Hid (w.heap.size = B ∧ A < B ∧ n ≤ 13 ∧ (n : Int) ≤ 13) := ⟨hWB, hAw, hn13, hn13'⟩
  clear hWB hAw hn13' hf hn13
  refine wp_region_held_drew (S := fun w' => w'.cell? ⟨B, 0, none⟩ = some (.pointer (some ⟨A, 0, none⟩))) (by kernel_rfl) (HBx.out _ (HG0.out _ HB.out).1).1 (fun hHeld => ?_)
  refine wpAnyH_take (i := 0) (oi := { dst := some 10, op := Op.load 117 (Operand.tmp 2), type := 117, pos := "expr.go:71", after := #[], guard := none }) (v := (.pointer (some ⟨A, 0, none⟩))) rfl (by kernel_rfl) (by kernel_rfl) (by kernel_rfl) (fun _ _ _ h => h) (Or.inl ⟨by rfl, fun w' hSw => ?_⟩) hHeld ?_
  · (try dsimp only at hSw)
    go_simp
  simp only [Act.put, List.setIfInBounds_toArray, List.set_cons_zero, List.set_cons_succ]
  refine wpAnyH_take (i := 1) (oi := { dst := some 11, op := Op.load 117 (Operand.tmp 2), type := 117, pos := "expr.go:71", after := #[], guard := none }) (v := (.pointer (some ⟨A, 0, none⟩))) rfl (by kernel_rfl) (by kernel_rfl) (by kernel_rfl) (fun _ _ _ h => h) (Or.inl ⟨by rfl, fun w' hSw => ?_⟩) hHeld ?_
  · (try dsimp only at hSw)
    go_simp
  simp only [Act.put, List.setIfInBounds_toArray, List.set_cons_zero, List.set_cons_succ]
  refine wpAnyH_ready (rs := [2]) (by kernel_rfl) (by simp) ?_
  refine AllReadyH.cons (o := { dst := some 12, op := Op.call { callee := Callee.value (Operand.func 91), args := #[Operand.tmp 11, Operand.const (Value.string { data := #[40] })], argTypes := #[117, 9] }, type := 4, pos := "expr.go:71", after := #[{ on := 1, ground := Ground.data }], guard := none }) rfl (fun K hK => ?_) AllReadyH.nil
  clear hHeld
  go_simp
  refine (is_any A l _ false HT.out.1 _ (HG0.out _ HB.out).2).mono ?_
  rintro _ w10 ⟨rfl, hb10⟩
  have HB : Hid (Below V.heap.size V w10) := HB.out.trans (hb10.mono HB.out.size)
  clear hb10
  go_simp
  refine hK.out _ _ (HBx.out _ (HG0.out _ HB.out).1).1 (fun hHeld => ?_)
  clear hK K
  refine wpAnyH_take (i := 3) (oi := { dst := some 13, op := Op.move (Operand.tmp 12), type := 4, pos := "expr.go:71", after := #[{ on := 2, ground := Ground.data }, { on := 2, ground := Ground.chain }], guard := none }) (v := (.bool false)) rfl (by kernel_rfl) (by kernel_rfl) (by kernel_rfl) (fun _ _ _ h => h) (Or.inl ⟨by rfl, fun w' hSw => ?_⟩) hHeld ?_
  · (try dsimp only at hSw)
    go_simp
  simp only [Act.put, List.setIfInBounds_toArray, List.set_cons_zero, List.set_cons_succ]
  refine wpAnyH_take (i := 4) (oi := { dst := some 14, op := Op.load 117 (Operand.tmp 2), type := 117, pos := "expr.go:71", after := #[{ on := 3, ground := Ground.guard }], guard := some (3, false) }) (v := (.pointer (some ⟨A, 0, none⟩))) rfl (by kernel_rfl) (by kernel_rfl) (by kernel_rfl) (fun _ _ _ h => h) (Or.inl ⟨by rfl, fun w' hSw => ?_⟩) hHeld ?_
  · (try dsimp only at hSw)
    go_simp
  simp only [Act.put, List.setIfInBounds_toArray, List.set_cons_zero, List.set_cons_succ]
  refine wpAnyH_ready (rs := [5]) (by kernel_rfl) (by simp) ?_
  refine AllReadyH.cons (o := { dst := some 15, op := Op.call { callee := Callee.value (Operand.func 91), args := #[Operand.tmp 14, Operand.const (Value.string { data := #[110, 117, 108, 108] })], argTypes := #[117, 9] }, type := 4, pos := "expr.go:71", after := #[{ on := 4, ground := Ground.data }, { on := 3, ground := Ground.chain }, { on := 3, ground := Ground.guard }], guard := some (3, false) }) rfl (fun K hK => ?_) AllReadyH.nil
  clear hHeld
  go_simp
  refine (is_any A l _ false HT.out.2.1 _ (HG0.out _ HB.out).2).mono ?_
  rintro _ w11 ⟨rfl, hb10⟩
  have HB : Hid (Below V.heap.size V w11) := HB.out.trans (hb10.mono HB.out.size)
  clear hb10
  go_simp
  refine hK.out _ _ (HBx.out _ (HG0.out _ HB.out).1).1 (fun hHeld => ?_)
  clear hK K
  refine wpAnyH_take (i := 6) (oi := { dst := some 16, op := Op.pick (Operand.tmp 13) (Operand.const (Value.bool true)) (Operand.tmp 15), type := 4, pos := "expr.go:71", after := #[{ on := 3, ground := Ground.data }, { on := 5, ground := Ground.data }], guard := none }) (v := (.bool false)) rfl (by kernel_rfl) (by kernel_rfl) (by kernel_rfl) (fun _ _ _ h => h) (Or.inl ⟨by rfl, fun w' hSw => ?_⟩) hHeld ?_
  · (try dsimp only at hSw)
    go_simp
  simp only [Act.put, List.setIfInBounds_toArray, List.set_cons_zero, List.set_cons_succ]
  refine wpAnyH_take (i := 7) (oi := { dst := some 17, op := Op.move (Operand.tmp 16), type := 4, pos := "expr.go:71", after := #[{ on := 6, ground := Ground.data }, { on := 5, ground := Ground.chain }], guard := none }) (v := (.bool false)) rfl (by kernel_rfl) (by kernel_rfl) (by kernel_rfl) (fun _ _ _ h => h) (Or.inl ⟨by rfl, fun w' hSw => ?_⟩) hHeld ?_
  · (try dsimp only at hSw)
    go_simp
  simp only [Act.put, List.setIfInBounds_toArray, List.set_cons_zero, List.set_cons_succ]
  refine wpAnyH_take (i := 8) (oi := { dst := some 18, op := Op.move (Operand.tmp 5), type := 3, pos := "expr.go:71", after := #[{ on := 7, ground := Ground.guard }], guard := some (7, false) }) (v := (.int .i64 k)) rfl (by kernel_rfl) (by kernel_rfl) (by kernel_rfl) (fun _ _ _ h => h) (Or.inl ⟨by rfl, fun w' hSw => ?_⟩) hHeld ?_
  · (try dsimp only at hSw)
    go_simp
  simp only [Act.put, List.setIfInBounds_toArray, List.set_cons_zero, List.set_cons_succ]
  refine wpAnyH_take (i := 9) (oi := { dst := some 19, op := Op.binOp BinOp.eql 3 (Operand.tmp 18) (Operand.const (Value.int IntKind.i64 2)) 3, type := 4, pos := "expr.go:71", after := #[{ on := 8, ground := Ground.data }, { on := 7, ground := Ground.guard }], guard := some (7, false) }) (v := (.bool false)) rfl (by kernel_rfl) (by kernel_rfl) (by kernel_rfl) (fun _ _ _ h => h) (Or.inl ⟨by rfl, fun w' hSw => ?_⟩) hHeld ?_
  · (try dsimp only at hSw)
    go_simp
  simp only [Act.put, List.setIfInBounds_toArray, List.set_cons_zero, List.set_cons_succ]
  refine wpAnyH_take (i := 10) (oi := { dst := some 20, op := Op.pick (Operand.tmp 17) (Operand.const (Value.bool true)) (Operand.tmp 19), type := 4, pos := "expr.go:71", after := #[{ on := 7, ground := Ground.data }, { on := 9, ground := Ground.data }], guard := none }) (v := (.bool false)) rfl (by kernel_rfl) (by kernel_rfl) (by kernel_rfl) (fun _ _ _ h => h) (Or.inl ⟨by rfl, fun w' hSw => ?_⟩) hHeld ?_
  · (try dsimp only at hSw)
    go_simp
  simp only [Act.put, List.setIfInBounds_toArray, List.set_cons_zero, List.set_cons_succ]
  refine wpAnyH_take (i := 11) (oi := { dst := some 21, op := Op.move (Operand.tmp 20), type := 4, pos := "expr.go:71", after := #[{ on := 10, ground := Ground.data }, { on := 7, ground := Ground.chain }], guard := none }) (v := (.bool false)) rfl (by kernel_rfl) (by kernel_rfl) (by kernel_rfl) (fun _ _ _ h => h) (Or.inl ⟨by rfl, fun w' hSw => ?_⟩) hHeld ?_
  · (try dsimp only at hSw)
    go_simp
  simp only [Act.put, List.setIfInBounds_toArray, List.set_cons_zero, List.set_cons_succ]
  refine wpAnyH_take (i := 12) (oi := { dst := some 22, op := Op.move (Operand.tmp 5), type := 3, pos := "expr.go:71", after := #[{ on := 11, ground := Ground.guard }], guard := some (11, false) }) (v := (.int .i64 k)) rfl (by kernel_rfl) (by kernel_rfl) (by kernel_rfl) (fun _ _ _ h => h) (Or.inl ⟨by rfl, fun w' hSw => ?_⟩) hHeld ?_
  · (try dsimp only at hSw)
    go_simp
  simp only [Act.put, List.setIfInBounds_toArray, List.set_cons_zero, List.set_cons_succ]
  refine wpAnyH_take (i := 13) (oi := { dst := some 23, op := Op.binOp BinOp.eql 3 (Operand.tmp 22) (Operand.const (Value.int IntKind.i64 3)) 3, type := 4, pos := "expr.go:71", after := #[{ on := 12, ground := Ground.data }, { on := 11, ground := Ground.guard }], guard := some (11, false) }) (v := (.bool false)) rfl (by kernel_rfl) (by kernel_rfl) (by kernel_rfl) (fun _ _ _ h => h) (Or.inl ⟨by rfl, fun w' hSw => ?_⟩) hHeld ?_
  · (try dsimp only at hSw)
    go_simp
  simp only [Act.put, List.setIfInBounds_toArray, List.set_cons_zero, List.set_cons_succ]
  refine wpAnyH_take (i := 14) (oi := { dst := some 24, op := Op.pick (Operand.tmp 21) (Operand.const (Value.bool true)) (Operand.tmp 23), type := 4, pos := "expr.go:71", after := #[{ on := 11, ground := Ground.data }, { on := 13, ground := Ground.data }], guard := none }) (v := (.bool false)) rfl (by kernel_rfl) (by kernel_rfl) (by kernel_rfl) (fun _ _ _ h => h) (Or.inl ⟨by rfl, fun w' hSw => ?_⟩) hHeld ?_
  · (try dsimp only at hSw)
    go_simp
  simp only [Act.put, List.setIfInBounds_toArray, List.set_cons_zero, List.set_cons_succ]
  refine wpAnyH_take (i := 15) (oi := { dst := some 25, op := Op.move (Operand.tmp 24), type := 4, pos := "expr.go:71", after := #[{ on := 14, ground := Ground.data }, { on := 11, ground := Ground.chain }], guard := none }) (v := (.bool false)) rfl (by kernel_rfl) (by kernel_rfl) (by kernel_rfl) (fun _ _ _ h => h) (Or.inl ⟨by rfl, fun w' hSw => ?_⟩) hHeld ?_
  · (try dsimp only at hSw)
    go_simp
  simp only [Act.put, List.setIfInBounds_toArray, List.set_cons_zero, List.set_cons_succ]
  refine wpAnyH_take (i := 16) (oi := { dst := some 26, op := Op.load 117 (Operand.tmp 2), type := 117, pos := "expr.go:71", after := #[{ on := 15, ground := Ground.guard }], guard := some (15, false) }) (v := (.pointer (some ⟨A, 0, none⟩))) rfl (by kernel_rfl) (by kernel_rfl) (by kernel_rfl) (fun _ _ _ h => h) (Or.inl ⟨by rfl, fun w' hSw => ?_⟩) hHeld ?_
  · (try dsimp only at hSw)
    go_simp
  simp only [Act.put, List.setIfInBounds_toArray, List.set_cons_zero, List.set_cons_succ]
  refine wpAnyH_ready (rs := [17]) (by kernel_rfl) (by simp) ?_
  refine AllReadyH.cons (o := { dst := some 27, op := Op.call { callee := Callee.value (Operand.func 103), args := #[Operand.tmp 26], argTypes := #[117] }, type := 4, pos := "expr.go:71", after := #[{ on := 16, ground := Ground.data }, { on := 15, ground := Ground.chain }, { on := 15, ground := Ground.guard }], guard := some (15, false) }) rfl (fun K hK => ?_) AllReadyH.nil
  clear hHeld
  go_simp
  refine (isName_any A l true HT.out.2.2 _ (HG0.out _ HB.out).2).mono ?_
  rintro _ w13 ⟨rfl, hb10⟩
  have HB : Hid (Below V.heap.size V w13) := HB.out.trans (hb10.mono HB.out.size)
  clear hb10
  go_simp
  refine hK.out _ _ (HBx.out _ (HG0.out _ HB.out).1).1 (fun hHeld => ?_)
  clear hK K
  refine wpAnyH_take (i := 18) (oi := { dst := some 28, op := Op.pick (Operand.tmp 25) (Operand.const (Value.bool true)) (Operand.tmp 27), type := 4, pos := "expr.go:71", after := #[{ on := 15, ground := Ground.data }, { on := 17, ground := Ground.data }], guard := none }) (v := (.bool true)) rfl (by kernel_rfl) (by kernel_rfl) (by kernel_rfl) (fun _ _ _ h => h) (Or.inl ⟨by rfl, fun w' hSw => ?_⟩) hHeld ?_
  · (try dsimp only at hSw)
    go_simp
  simp only [Act.put, List.setIfInBounds_toArray, List.set_cons_zero, List.set_cons_succ]
  refine wpAnyH_ready (rs := [19]) (by kernel_rfl) (by simp) ?_
  refine AllReadyH.cons (o := { dst := some 29, op := Op.call { callee := Callee.value (Operand.func 68), args := #[Operand.tmp 10, Operand.tmp 28], argTypes := #[117, 4] }, type := 0, pos := "expr.go:71", after := #[{ on := 0, ground := Ground.data }, { on := 18, ground := Ground.data }, { on := 17, ground := Ground.chain }], guard := none }) rfl (fun K hK => ?_) AllReadyH.nil
  clear hHeld
  go_simp
  refine (must_yes A _).mono ?_
  rintro _ w12 ⟨rfl, hw12⟩
  subst hw12
  go_simp
  refine hK.out _ _ (HBx.out _ (HG0.out _ HB.out).1).1 (fun hHeld => ?_)
  clear hK K
  refine wpAnyH_done (by kernel_rfl) ?_ _
  obtain ⟨y1, y2⟩ := HBx.out _ (HG0.out _ HB.out).1
  have hWB := HC.out.1
  obtain rfl := hWB
  clear c1 c2
  go_wp2_with fail
  by_cases hn : n ≤ 12
  · refine (most_yes A (n : Int) 12 (by omega) _).mono ?_
    rintro _ w3 ⟨rfl, hw3⟩
    subst hw3
    have H3 : Hid (RdIs A l w3 ∧ w.grownBy w3 (some A) ∧ BoxAt A w.heap.size (w.heap.size + 1) n w3) := ⟨(HG0.out _ HB.out).2, HV.out.2.2.1.trans (HG0.out _ HB.out).1, HV.out.2.1.grown (HG0.out _ HB.out).1⟩
    have HR3 : Hid (oneF E l = R) := HR.out.1 hn
    clear hn
    go_wp2_with fail
    refine (has_any A l ⟨#[110, 117, 108, 108]⟩ false HT.out.2.1 w3 H3.out.1).mono ?_
    rintro _ w4 ⟨rfl, hr4, hg4⟩
    have H4 : Hid (RdIs A l w4 ∧ w.grownBy w4 (some A) ∧ BoxAt A w.heap.size (w.heap.size + 1) n w4) := ⟨hr4, H3.out.2.1.trans hg4, H3.out.2.2.grown hg4⟩
    have x1 := H4.out.2.2.cx
    clear hr4 hg4 y1 y2
    go_wp2_with fail
    refine (is_any A l ⟨#[40]⟩ false HT.out.1 w4 H4.out.1).mono ?_
    rintro _ w5 ⟨rfl, hb5⟩
    have H5 : Hid (RdIs A l w5 ∧ w.grownBy w5 (some A) ∧ BoxAt A w.heap.size (w.heap.size + 1) n w5) := ⟨H4.out.1.below hb5, H4.out.2.1.trans (grown_of_belowA hb5 _), H4.out.2.2.grown (grown_of_belowA hb5 _)⟩
    have x2 := H5.out.2.2.cx
    clear hb5 x1
    go_wp2_with fail
    refine (col_any A l w5 H5.out.1).mono ?_
    rintro _ w6 ht
    have HT6 := Told.from ht H5.out.2.1
    unfold Told at HT6
    have HR6 : Hid (colF l = R) := by show _ = _; rw [← HR3.out]; exact (one_col HK2.out.1 HK2.out.2 HT.out.2.1 HT.out.1).symm
    rw [HQe.out, HR6.out] at HT6
    clear ht
    rcases HT6 with ⟨hg, ⟨x, l1, p, h1, rfl, h3, h4⟩ | ⟨h1, n1, m1, rfl⟩⟩
    · go_wp2
      go_ret
      exact ⟨hg, .inl ⟨x, l1, p, h1, rfl, h3, h4⟩⟩
    · go_wp2
      exact ⟨by first | rfl | trivial, hg, .inr ⟨h1, n1, m1, rfl⟩⟩
  · refine (most_no A l (n : Int) 12 (by omega) _ (HG0.out _ HB.out).2).mono ?_
    rintro _ w4 ⟨⟨n1, m1, rfl⟩, hb4⟩
    have HG : Hid (w.grownBy w4 (some A) ∧ R = none) := ⟨(HV.out.2.2.1.trans (HG0.out _ HB.out).1).trans (grown_of_belowA hb4 _), HR.out.2 hn⟩
    clear hb4
    go_wp2
    exact ⟨by first | rfl | trivial, HG.out.1, .inr ⟨HG.out.2, n1, m1, rfl⟩⟩
end Go.Proofs.YtmabfbffpedfnaaGreatDoor
attribute [local go_sem ↓] Go.wp_at_zero Go.wp_at_succ
namespace Go.Proofs.YtmabfbffpedfnaaGreatDoor
open Go.RowKit

set_option maxRecDepth 100000 in
set_option maxHeartbeats 32000000 in
theorem one_o (hPI : PIntSpec) {E : Rf Ex} {n : Nat} (hn13 : n ≤ 13) (hE : n ≤ 12 → ESpec E (n + 1)) (hEr : Reads E) (A : Nat) (l : List KT) (w : World) (h : RdIs A l w) (hc : (hdT l).1 ≠ 2 ∧ (hdT l).1 ≠ 3 ∧ nameB l = false ∧ isT ⟨#[110, 117, 108, 108]⟩ l = false ∧ isT ⟨#[40]⟩ l = false) : Calls Tryz.prog 168 #[.pointer (some ⟨A, 0, none⟩), .int .i64 (n : Int)] w fun e w' => Told A (oneD n E l) w e w' := by
  have HE : Hid (PIntSpec ∧ (n ≤ 12 → ESpec E (n + 1)) ∧ Reads E) := ⟨hPI, hE, hEr⟩
  obtain ⟨V, hV⟩ : ∃ V, (w.alloc (.cells #[.pointer (some ⟨A, 0, none⟩)] 117)).alloc (.cells #[.int .i64 (n : Int)] 3) = V := ⟨_, rfl⟩
  have hVb : Below w.heap.size w V := by rw [← hV]; exact ((Below.refl _ _).alloc (Nat.le_refl _) _).alloc (by simp) _
  have hbx : BoxAt A w.heap.size (w.heap.size + 1) n V := by rw [← hV]; exact box_new n h.lt
  have HV : Hid (RdIs A l V ∧ BoxAt A w.heap.size (w.heap.size + 1) n V ∧ w.grownBy V (some A) ∧ A < w.heap.size) := ⟨h.below hVb, hbx, grown_of_belowA hVb _, h.lt⟩
  have HBx : Hid (∀ wx, V.grownBy wx (some A) → wx.cell? ⟨w.heap.size, 0, none⟩ = some (.pointer (some ⟨A, 0, none⟩)) ∧ wx.cell? ⟨w.heap.size + 1, 0, none⟩ = some (.int .i64 (n : Int))) := fun wx hg => ⟨(hbx.grown hg).cx, (hbx.grown hg).cy⟩
  obtain ⟨q0, hq0⟩ : ∃ q0, w.heap.size - 1 = q0 := ⟨_, rfl⟩
  have HQ : Hid (q0 < w.heap.size) := by have := h.lt; show _ < _; omega
  have HQe : Hid (w.heap.size - 1 = q0) := hq0
  obtain ⟨R, hR⟩ : ∃ R, oneD n E l = R := ⟨_, rfl⟩
  have HR : Hid ((n ≤ 12 → oneF E l = R) ∧ (¬ n ≤ 12 → R = none)) := by
    rw [← hR]; unfold oneD
    exact ⟨fun h => (if_pos h).symm, fun h => if_neg h⟩
  unfold Told
  rw [hR, hq0]
  generalize hk : (hdT l).1 = k
  generalize ht : (hdT l).2 = t
  have HK : Hid ((hdT l).1 = k ∧ (hdT l).2 = t) := ⟨hk, ht⟩
  obtain ⟨b1, hb1⟩ : ∃ b, isT ⟨#[40]⟩ l = b := ⟨_, rfl⟩
  obtain ⟨b2, hb2⟩ : ∃ b, isT ⟨#[110, 117, 108, 108]⟩ l = b := ⟨_, rfl⟩
  obtain ⟨b5, hb5⟩ : ∃ b, nameB l = b := ⟨_, rfl⟩
  have HT : Hid (isT ⟨#[40]⟩ l = b1 ∧ isT ⟨#[110, 117, 108, 108]⟩ l = b2 ∧ nameB l = b5) := ⟨hb1, hb2, hb5⟩
  have h1 := hbx.cx
  have h2 := hbx.cy
  have hn13' : (n : Int) ≤ 13 := by omega
  have hf := field0 k
  have hka : b1 = true → k = 1 ∨ k = 4 := fun e => by rw [← hk]; exact (isT_k (by rw [hb1, e])).1
  have hkb : b2 = true → k = 1 ∨ k = 4 := fun e => by rw [← hk]; exact (isT_k (by rw [hb2, e])).1
  have hkc : b5 = true → k = 1 := fun e => by
    rw [e] at hb5
    simp only [nameB, Bool.and_eq_true, decide_eq_true_eq] at hb5
    rw [← hk]; exact hb5.1
  have hkd : b1 = true → b2 = false := fun e => by
    cases hh : b2 with
    | false => rfl
    | true =>
      have e1 := (isT_k (by rw [hb1, e])).2
      have e2 := (isT_k (by rw [hb2, hh])).2
      rw [e1] at e2
      exact absurd e2 (by decide)
  have hAw := h.lt
  clear h hPI hE hEr hbx hVb hR hq0 hk ht hb1 hb2 hb5
  go_enter Tryz.func168, Tryz.ntmps168
  go_wp2_with fail
  refine (now_any A l V HV.out.1).mono ?_
  rintro _ w1 ⟨⟨p, rfl⟩, hb1⟩
  rw [HK.out.1, HK.out.2]
  have HB : Hid (Below V.heap.size V w1) := hb1
  have HG0 : Hid (∀ wx, Below V.heap.size V wx → V.grownBy wx (some A) ∧ RdIs A l wx) := fun wx hb => ⟨grown_of_belowA hb _, HV.out.1.below hb⟩
  obtain ⟨c1, c2⟩ := HBx.out w1 (grown_of_belowA hb1 _)
  clear hb1 h1 h2 hV
  generalize hWB : w.heap.size = B at *
  have HRn : Hid (R = none) := by
    show _ = _
    by_cases hn : n ≤ 12
    · rw [← HR.out.1 hn, one_col hc.1 hc.2.1 hc.2.2.2.1 hc.2.2.2.2]; exact col_no hc.2.2.1
    · exact HR.out.2 hn
  obtain rfl : b5 = false := by rw [← HT.out.2.2]; exact hc.2.2.1
  obtain rfl : b2 = false := by rw [← HT.out.2.1]; exact hc.2.2.2.1
  obtain rfl : b1 = false := by rw [← HT.out.1]; exact hc.2.2.2.2
  have hk14 : k ≠ 2 ∧ k ≠ 3 := by rw [← HK.out.1]; exact ⟨hc.1, hc.2.1⟩
  have hk2 : k ≠ 2 ∧ k ≠ 3 := hk14
  have HK2 : Hid ((hdT l).1 ≠ 2 ∧ (hdT l).1 ≠ 3) := by rw [HK.out.1]; exact hk2
  have d2 : (k == 2) = false := by rw [beq_eq_false_iff_ne]; exact hk2.1
  have d3 : (k == 3) = false := by rw [beq_eq_false_iff_ne]; exact hk2.2
  clear hk14 hka hkb hkc hkd hk2 hc
  go_wp2_with fail
  have HB : Hid (Below V.heap.size V w1.drew) := HB.out.drew
  have HC : Hid (w.heap.size = B ∧ A < B ∧ n ≤ 13 ∧ (n : Int) ≤ 13) := ⟨hWB, hAw, hn13, hn13'⟩
  clear hWB hAw hn13' hf hn13
  have c1d := (HBx.out _ (HG0.out _ HB.out).1).1
  refine wp_region_held_drew (S := fun w' => w'.cell? ⟨B, 0, none⟩ = some (.pointer (some ⟨A, 0, none⟩))) (by kernel_rfl) (HBx.out _ (HG0.out _ HB.out).1).1 (fun hHeld => ?_)
  refine wpAnyH_take (i := 0) (oi := { dst := some 10, op := Op.load 117 (Operand.tmp 2), type := 117, pos := "expr.go:71", after := #[], guard := none }) (v := (.pointer (some ⟨A, 0, none⟩))) rfl (by kernel_rfl) (by kernel_rfl) (by kernel_rfl) (fun _ _ _ h => h) (Or.inl ⟨by rfl, fun w' hSw => ?_⟩) hHeld ?_
  · (try dsimp only at hSw)
    go_simp
  simp only [Act.put, List.setIfInBounds_toArray, List.set_cons_zero, List.set_cons_succ]
  refine wpAnyH_take (i := 1) (oi := { dst := some 11, op := Op.load 117 (Operand.tmp 2), type := 117, pos := "expr.go:71", after := #[], guard := none }) (v := (.pointer (some ⟨A, 0, none⟩))) rfl (by kernel_rfl) (by kernel_rfl) (by kernel_rfl) (fun _ _ _ h => h) (Or.inl ⟨by rfl, fun w' hSw => ?_⟩) hHeld ?_
  · (try dsimp only at hSw)
    go_simp
  simp only [Act.put, List.setIfInBounds_toArray, List.set_cons_zero, List.set_cons_succ]
  refine wpAnyH_ready (rs := [2]) (by kernel_rfl) (by simp) ?_
  refine AllReadyH.cons (o := { dst := some 12, op := Op.call { callee := Callee.value (Operand.func 91), args := #[Operand.tmp 11, Operand.const (Value.string { data := #[40] })], argTypes := #[117, 9] }, type := 4, pos := "expr.go:71", after := #[{ on := 1, ground := Ground.data }], guard := none }) rfl (fun K hK => ?_) AllReadyH.nil
  clear hHeld
  go_simp
  refine (is_any A l _ false HT.out.1 _ (HG0.out _ HB.out).2).mono ?_
  rintro _ w10 ⟨rfl, hb10⟩
  have HB : Hid (Below V.heap.size V w10) := HB.out.trans (hb10.mono HB.out.size)
  clear hb10
  go_simp
  refine hK.out _ _ (HBx.out _ (HG0.out _ HB.out).1).1 (fun hHeld => ?_)
  clear hK K
  refine wpAnyH_take (i := 3) (oi := { dst := some 13, op := Op.move (Operand.tmp 12), type := 4, pos := "expr.go:71", after := #[{ on := 2, ground := Ground.data }, { on := 2, ground := Ground.chain }], guard := none }) (v := (.bool false)) rfl (by kernel_rfl) (by kernel_rfl) (by kernel_rfl) (fun _ _ _ h => h) (Or.inl ⟨by rfl, fun w' hSw => ?_⟩) hHeld ?_
  · (try dsimp only at hSw)
    go_simp
  simp only [Act.put, List.setIfInBounds_toArray, List.set_cons_zero, List.set_cons_succ]
  refine wpAnyH_take (i := 4) (oi := { dst := some 14, op := Op.load 117 (Operand.tmp 2), type := 117, pos := "expr.go:71", after := #[{ on := 3, ground := Ground.guard }], guard := some (3, false) }) (v := (.pointer (some ⟨A, 0, none⟩))) rfl (by kernel_rfl) (by kernel_rfl) (by kernel_rfl) (fun _ _ _ h => h) (Or.inl ⟨by rfl, fun w' hSw => ?_⟩) hHeld ?_
  · (try dsimp only at hSw)
    go_simp
  simp only [Act.put, List.setIfInBounds_toArray, List.set_cons_zero, List.set_cons_succ]
  refine wpAnyH_ready (rs := [5]) (by kernel_rfl) (by simp) ?_
  refine AllReadyH.cons (o := { dst := some 15, op := Op.call { callee := Callee.value (Operand.func 91), args := #[Operand.tmp 14, Operand.const (Value.string { data := #[110, 117, 108, 108] })], argTypes := #[117, 9] }, type := 4, pos := "expr.go:71", after := #[{ on := 4, ground := Ground.data }, { on := 3, ground := Ground.chain }, { on := 3, ground := Ground.guard }], guard := some (3, false) }) rfl (fun K hK => ?_) AllReadyH.nil
  clear hHeld
  go_simp
  refine (is_any A l _ false HT.out.2.1 _ (HG0.out _ HB.out).2).mono ?_
  rintro _ w11 ⟨rfl, hb10⟩
  have HB : Hid (Below V.heap.size V w11) := HB.out.trans (hb10.mono HB.out.size)
  clear hb10
  go_simp
  refine hK.out _ _ (HBx.out _ (HG0.out _ HB.out).1).1 (fun hHeld => ?_)
  clear hK K
  refine wpAnyH_take (i := 6) (oi := { dst := some 16, op := Op.pick (Operand.tmp 13) (Operand.const (Value.bool true)) (Operand.tmp 15), type := 4, pos := "expr.go:71", after := #[{ on := 3, ground := Ground.data }, { on := 5, ground := Ground.data }], guard := none }) (v := (.bool false)) rfl (by kernel_rfl) (by kernel_rfl) (by kernel_rfl) (fun _ _ _ h => h) (Or.inl ⟨by rfl, fun w' hSw => ?_⟩) hHeld ?_
  · (try dsimp only at hSw)
    go_simp
  simp only [Act.put, List.setIfInBounds_toArray, List.set_cons_zero, List.set_cons_succ]
  refine wpAnyH_take (i := 7) (oi := { dst := some 17, op := Op.move (Operand.tmp 16), type := 4, pos := "expr.go:71", after := #[{ on := 6, ground := Ground.data }, { on := 5, ground := Ground.chain }], guard := none }) (v := (.bool false)) rfl (by kernel_rfl) (by kernel_rfl) (by kernel_rfl) (fun _ _ _ h => h) (Or.inl ⟨by rfl, fun w' hSw => ?_⟩) hHeld ?_
  · (try dsimp only at hSw)
    go_simp
  simp only [Act.put, List.setIfInBounds_toArray, List.set_cons_zero, List.set_cons_succ]
  refine wpAnyH_take (i := 8) (oi := { dst := some 18, op := Op.move (Operand.tmp 5), type := 3, pos := "expr.go:71", after := #[{ on := 7, ground := Ground.guard }], guard := some (7, false) }) (v := (.int .i64 k)) rfl (by kernel_rfl) (by kernel_rfl) (by kernel_rfl) (fun _ _ _ h => h) (Or.inl ⟨by rfl, fun w' hSw => ?_⟩) hHeld ?_
  · (try dsimp only at hSw)
    go_simp
  simp only [Act.put, List.setIfInBounds_toArray, List.set_cons_zero, List.set_cons_succ]
  refine wpAnyH_take (i := 9) (oi := { dst := some 19, op := Op.binOp BinOp.eql 3 (Operand.tmp 18) (Operand.const (Value.int IntKind.i64 2)) 3, type := 4, pos := "expr.go:71", after := #[{ on := 8, ground := Ground.data }, { on := 7, ground := Ground.guard }], guard := some (7, false) }) (v := (.bool false)) rfl (by kernel_rfl) (by kernel_rfl) (by kernel_rfl) (fun _ _ _ h => h) (Or.inl ⟨by rfl, fun w' hSw => ?_⟩) hHeld ?_
  · (try dsimp only at hSw)
    go_simp
  simp only [Act.put, List.setIfInBounds_toArray, List.set_cons_zero, List.set_cons_succ]
  refine wpAnyH_take (i := 10) (oi := { dst := some 20, op := Op.pick (Operand.tmp 17) (Operand.const (Value.bool true)) (Operand.tmp 19), type := 4, pos := "expr.go:71", after := #[{ on := 7, ground := Ground.data }, { on := 9, ground := Ground.data }], guard := none }) (v := (.bool false)) rfl (by kernel_rfl) (by kernel_rfl) (by kernel_rfl) (fun _ _ _ h => h) (Or.inl ⟨by rfl, fun w' hSw => ?_⟩) hHeld ?_
  · (try dsimp only at hSw)
    go_simp
  simp only [Act.put, List.setIfInBounds_toArray, List.set_cons_zero, List.set_cons_succ]
  refine wpAnyH_take (i := 11) (oi := { dst := some 21, op := Op.move (Operand.tmp 20), type := 4, pos := "expr.go:71", after := #[{ on := 10, ground := Ground.data }, { on := 7, ground := Ground.chain }], guard := none }) (v := (.bool false)) rfl (by kernel_rfl) (by kernel_rfl) (by kernel_rfl) (fun _ _ _ h => h) (Or.inl ⟨by rfl, fun w' hSw => ?_⟩) hHeld ?_
  · (try dsimp only at hSw)
    go_simp
  simp only [Act.put, List.setIfInBounds_toArray, List.set_cons_zero, List.set_cons_succ]
  refine wpAnyH_take (i := 12) (oi := { dst := some 22, op := Op.move (Operand.tmp 5), type := 3, pos := "expr.go:71", after := #[{ on := 11, ground := Ground.guard }], guard := some (11, false) }) (v := (.int .i64 k)) rfl (by kernel_rfl) (by kernel_rfl) (by kernel_rfl) (fun _ _ _ h => h) (Or.inl ⟨by rfl, fun w' hSw => ?_⟩) hHeld ?_
  · (try dsimp only at hSw)
    go_simp
  simp only [Act.put, List.setIfInBounds_toArray, List.set_cons_zero, List.set_cons_succ]
  refine wpAnyH_take (i := 13) (oi := { dst := some 23, op := Op.binOp BinOp.eql 3 (Operand.tmp 22) (Operand.const (Value.int IntKind.i64 3)) 3, type := 4, pos := "expr.go:71", after := #[{ on := 12, ground := Ground.data }, { on := 11, ground := Ground.guard }], guard := some (11, false) }) (v := (.bool false)) rfl (by kernel_rfl) (by kernel_rfl) (by kernel_rfl) (fun _ _ _ h => h) (Or.inl ⟨by rfl, fun w' hSw => ?_⟩) hHeld ?_
  · (try dsimp only at hSw)
    go_simp
  simp only [Act.put, List.setIfInBounds_toArray, List.set_cons_zero, List.set_cons_succ]
  refine wpAnyH_take (i := 14) (oi := { dst := some 24, op := Op.pick (Operand.tmp 21) (Operand.const (Value.bool true)) (Operand.tmp 23), type := 4, pos := "expr.go:71", after := #[{ on := 11, ground := Ground.data }, { on := 13, ground := Ground.data }], guard := none }) (v := (.bool false)) rfl (by kernel_rfl) (by kernel_rfl) (by kernel_rfl) (fun _ _ _ h => h) (Or.inl ⟨by rfl, fun w' hSw => ?_⟩) hHeld ?_
  · (try dsimp only at hSw)
    go_simp
  simp only [Act.put, List.setIfInBounds_toArray, List.set_cons_zero, List.set_cons_succ]
  refine wpAnyH_take (i := 15) (oi := { dst := some 25, op := Op.move (Operand.tmp 24), type := 4, pos := "expr.go:71", after := #[{ on := 14, ground := Ground.data }, { on := 11, ground := Ground.chain }], guard := none }) (v := (.bool false)) rfl (by kernel_rfl) (by kernel_rfl) (by kernel_rfl) (fun _ _ _ h => h) (Or.inl ⟨by rfl, fun w' hSw => ?_⟩) hHeld ?_
  · (try dsimp only at hSw)
    go_simp
  simp only [Act.put, List.setIfInBounds_toArray, List.set_cons_zero, List.set_cons_succ]
  refine wpAnyH_take (i := 16) (oi := { dst := some 26, op := Op.load 117 (Operand.tmp 2), type := 117, pos := "expr.go:71", after := #[{ on := 15, ground := Ground.guard }], guard := some (15, false) }) (v := (.pointer (some ⟨A, 0, none⟩))) rfl (by kernel_rfl) (by kernel_rfl) (by kernel_rfl) (fun _ _ _ h => h) (Or.inl ⟨by rfl, fun w' hSw => ?_⟩) hHeld ?_
  · (try dsimp only at hSw)
    go_simp
  simp only [Act.put, List.setIfInBounds_toArray, List.set_cons_zero, List.set_cons_succ]
  refine wpAnyH_ready (rs := [17]) (by kernel_rfl) (by simp) ?_
  refine AllReadyH.cons (o := { dst := some 27, op := Op.call { callee := Callee.value (Operand.func 103), args := #[Operand.tmp 26], argTypes := #[117] }, type := 4, pos := "expr.go:71", after := #[{ on := 16, ground := Ground.data }, { on := 15, ground := Ground.chain }, { on := 15, ground := Ground.guard }], guard := some (15, false) }) rfl (fun K hK => ?_) AllReadyH.nil
  clear hHeld
  go_simp
  refine (isName_any A l false HT.out.2.2 _ (HG0.out _ HB.out).2).mono ?_
  rintro _ w13 ⟨rfl, hb10⟩
  have HB : Hid (Below V.heap.size V w13) := HB.out.trans (hb10.mono HB.out.size)
  clear hb10
  go_simp
  refine hK.out _ _ (HBx.out _ (HG0.out _ HB.out).1).1 (fun hHeld => ?_)
  clear hK K
  refine wpAnyH_take (i := 18) (oi := { dst := some 28, op := Op.pick (Operand.tmp 25) (Operand.const (Value.bool true)) (Operand.tmp 27), type := 4, pos := "expr.go:71", after := #[{ on := 15, ground := Ground.data }, { on := 17, ground := Ground.data }], guard := none }) (v := (.bool false)) rfl (by kernel_rfl) (by kernel_rfl) (by kernel_rfl) (fun _ _ _ h => h) (Or.inl ⟨by rfl, fun w' hSw => ?_⟩) hHeld ?_
  · (try dsimp only at hSw)
    go_simp
  simp only [Act.put, List.setIfInBounds_toArray, List.set_cons_zero, List.set_cons_succ]
  refine wpAnyH_ready (rs := [19]) (by kernel_rfl) (by simp) ?_
  refine AllReadyH.cons (o := { dst := some 29, op := Op.call { callee := Callee.value (Operand.func 68), args := #[Operand.tmp 10, Operand.tmp 28], argTypes := #[117, 4] }, type := 0, pos := "expr.go:71", after := #[{ on := 0, ground := Ground.data }, { on := 18, ground := Ground.data }, { on := 17, ground := Ground.chain }], guard := none }) rfl (fun K hK => ?_) AllReadyH.nil
  clear hHeld
  go_simp
  refine (must_no A l _ (HG0.out _ HB.out).2).mono ?_
  rintro _ w12 ⟨⟨n9, m9, rfl⟩, hb10⟩
  have HG : Hid (w.grownBy w12 (some A)) := (HV.out.2.2.1.trans (HG0.out _ HB.out).1).trans (grown_of_belowA hb10 _)
  refine (show _ ∧ _ from ⟨?_, HG.out, .inr ⟨HRn.out, n9, m9, rfl⟩⟩)
  first | rfl | trivial
end Go.Proofs.YtmabfbffpedfnaaGreatDoor
namespace Go.Proofs.YtmabfbffpedfnaaGreatDoor
open Go.RowKit

theorem one_any (hPI : PIntSpec) {E : Rf Ex} {n : Nat} (hn13 : n ≤ 13) (hE : n ≤ 12 → ESpec E (n + 1)) (hEr : Reads E) : OSpec (oneD n E) n := by
  intro A l w h
  by_cases h2 : (hdT l).1 = 2
  · exact one_n hPI hn13 hE hEr A l w h h2
  by_cases h3 : (hdT l).1 = 3
  · exact one_x hPI hn13 hE hEr A l w h h3
  cases h4 : isT ⟨#[110, 117, 108, 108]⟩ l with
  | true => exact one_u hPI hn13 hE hEr A l w h h4
  | false =>
    cases h5 : isT ⟨#[40]⟩ l with
    | true => exact one_p hPI hn13 hE hEr A l w h h5
    | false =>
      cases h6 : nameB l with
      | true => exact one_c hPI hn13 hE hEr A l w h ⟨h6, h4, h5⟩
      | false => exact one_o hPI hn13 hE hEr A l w h ⟨h2, h3, h6, h4, h5⟩
theorem lev_of (hPI : PIntSpec) (d : Nat) : d ≤ 13 → ESpec (lev d).E (13 - d) ∧ NSpec (lev d).N (13 - d) ∧ MSpec (lev d).M (13 - d) := by
  induction d with
  | zero =>
    intro _
    have hr : Reads (fun _ => none : Rf Ex) := (fun _ _ _ h => by cases h)
    have hO : OSpec (oneD 13 (fun _ => none)) 13 := one_any hPI (Nat.le_refl _) (fun h => absurd h (by decide)) hr
    have hM : MSpec (fun _ => none) 13 := minus_deep hO (fun l => rfl)
    have hP := prod_of hM hr
    have hS := sum_of hP (chainF_reads hr _)
    have hA := ask_of hS (fun l x h => by cases h)
    have hN : NSpec (fun _ => none) 13 := not_deep hA (fun l => rfl)
    have hB := both_of hN hr
    have hE := expr_of hB (chainF_reads hr _)
    exact ⟨hE, hN, hM⟩
  | succ d ih =>
    intro hd
    obtain ⟨hE, hN, hM⟩ := ih (by omega)
    have e : 13 - d = 13 - (d + 1) + 1 := by omega
    rw [e] at hE hN hM
    have hR := lev_reads d
    have hn : 13 - (d + 1) ≤ 12 := by omega
    have hO : OSpec (oneF (lev d).E) (13 - (d + 1)) := by
      have := one_any hPI (n := 13 - (d + 1)) (by omega) (fun _ => hE) hR.1
      have e2 : oneD (13 - (d + 1)) (lev d).E = oneF (lev d).E := by funext l; unfold oneD; rw [if_pos hn]
      rw [e2] at this
      exact this
    have hMr := minusF_reads hR.2.2 (oneF_reads hR.1)
    have hM2 := minus_of hn hM hO
    have hP := prod_of hM2 hMr
    have hS := sum_of hP (chainF_reads hMr _)
    have hA := ask_of hS (sumF_nn (minusF_nn (oneF_nn (lev_nn d).1)))
    have hN2 := not_of hn hN hA
    have hNr := notF_reads hR.2.1 (askF_reads (sumF_reads hMr))
    have hB := both_of hN2 hNr
    have hE2 := expr_of hB (chainF_reads hNr _)
    exact ⟨hE2, hN2, hM2⟩
theorem Ef_of (hPI : PIntSpec) : ESpec Ef 0 := (lev_of hPI 13 (Nat.le_refl _)).1
end Go.Proofs.YtmabfbffpedfnaaGreatDoor
