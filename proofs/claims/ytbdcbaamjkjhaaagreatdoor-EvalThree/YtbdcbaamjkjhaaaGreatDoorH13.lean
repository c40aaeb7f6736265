/- Part 13 of 35. -/
import Derived.Test.YtbdcbaamjkjhaaaGreatDoorH12
namespace Go.Proofs.YtbdcbaamjkjhaaaGreatDoor
open Go.RowKit

set_option maxRecDepth 100000 in
set_option maxHeartbeats 8000000 in
theorem witem_any (e : Ex) (he : TreeOk e) (o : Int) (b : Nat) (p : Option Addr) (l : List UInt8) (w : World) (hw : WS b l w) (ht : TrAt b w p e) (hl : l.length + (itemT o e).length ≤ 1000000) :
    Calls Tryz.prog 102 #[.pointer (some ⟨b, 0, none⟩), .agg #[.int .i64 o, .pointer p]] w fun r w' => Puts b l (itemT o e) w r w' := by
  have HE : Hid (ESp e) := (wexpr_all e he).1
  clear he
  by_cases h1 : o = 1
  · subst h1
    cases e with
    | nil =>
      obtain rfl := ht.nil
      have HR : Hid (itemT 1 .nil = [99, 111, 117, 110, 116, 40] ++ [42] ++ prN 1 .nil ++ [41]) := by show _ = _; rfl
      have HL : Hid (l.length + ([99, 111, 117, 110, 116, 40] ++ [42] ++ prN 1 .nil ++ [41]).length ≤ 1000000) := by show _ ≤ _; rw [← HR.out]; exact hl
      obtain ⟨R, hR⟩ : ∃ R, itemT 1 .nil = R := ⟨_, rfl⟩
      rw [hR] at HR ⊢
      obtain ⟨W, hW⟩ : ∃ W, w.alloc (.cells #[.int .i64 1, .pointer none] 148) = W := ⟨_, rfl⟩
      have G0 : Hid (WS b l W ∧ WK b w W ∧ Blk w.heap.size #[.int .i64 1, .pointer none] 148 W ∧ TrAt b W none .nil) := by rw [← hW]; exact ⟨hw.alloc _, (WK.refl _ _).alloc (Nat.le_of_lt hw.wr.lt) _, Blk.new _ _ _, ht.keep ((Below.refl _ _).alloc (Nat.le_of_lt hw.wr.lt) _)⟩
      have HNE : Hid (w.heap.size ≠ b) := by have := hw.wr.lt; show _ ≠ _; omega
      clear hl hR hw ht
      have q0W : W.cell? ⟨w.heap.size, 0, none⟩ = some (.int .i64 1) := by rw [G0.out.2.2.1.cell 0]; rfl
      have q1W : W.cell? ⟨w.heap.size, 1, none⟩ = some (.pointer none) := by rw [G0.out.2.2.1.cell 1]; rfl
      go_enter Tryz.func102, Tryz.ntmps102
      go_wp2_with fail
      refine (put1 b _ ⟨#[99, 111, 117, 110, 116, 40]⟩ W G0.out.1 (by have h9 := HL.out; (try simp at h9 ⊢); omega)).mono ?_
      rintro _ v9 ⟨rfl, h2, h3⟩
      have G9 : Hid (WS b (l ++ [99, 111, 117, 110, 116, 40]) v9 ∧ WK b w v9 ∧ Blk w.heap.size #[.int .i64 1, .pointer none] 148 v9 ∧ TrAt b v9 none .nil) := ⟨h2, G0.out.2.1.trans h3, h3.blk G0.out.2.2.1 HNE.out (by decide), G0.out.2.2.2.keep h3.below⟩
      clear h2 h3
      have q0v9 : v9.cell? ⟨w.heap.size, 0, none⟩ = some (.int .i64 1) := by rw [G9.out.2.2.1.cell 0]; rfl
      have q1v9 : v9.cell? ⟨w.heap.size, 1, none⟩ = some (.pointer none) := by rw [G9.out.2.2.1.cell 1]; rfl
      go_wp2_with fail
      refine (put1 b _ ⟨#[42]⟩ v9 G9.out.1 (by have h9 := HL.out; (try simp at h9 ⊢); omega)).mono ?_
      rintro _ v10 ⟨rfl, h2, h3⟩
      have G10 : Hid (WS b (l ++ [99, 111, 117, 110, 116, 40] ++ [42]) v10 ∧ WK b w v10 ∧ Blk w.heap.size #[.int .i64 1, .pointer none] 148 v10 ∧ TrAt b v10 none .nil) := ⟨h2, G9.out.2.1.trans h3, h3.blk G9.out.2.2.1 HNE.out (by decide), G9.out.2.2.2.keep h3.below⟩
      clear h2 h3
      have q0v10 : v10.cell? ⟨w.heap.size, 0, none⟩ = some (.int .i64 1) := by rw [G10.out.2.2.1.cell 0]; rfl
      have q1v10 : v10.cell? ⟨w.heap.size, 1, none⟩ = some (.pointer none) := by rw [G10.out.2.2.1.cell 1]; rfl
      go_wp2_with fail
      refine (HE.out b _ 1 _ v10 G10.out.1 G10.out.2.2.2 (by have h9 := HL.out; (try simp at h9 ⊢); omega)).mono ?_
      rintro _ v11 ⟨rfl, h2, h3⟩
      have G11 : Hid (WS b (l ++ [99, 111, 117, 110, 116, 40] ++ [42] ++ prN 1 .nil) v11 ∧ WK b w v11 ∧ Blk w.heap.size #[.int .i64 1, .pointer none] 148 v11 ∧ TrAt b v11 none .nil) := ⟨h2, G10.out.2.1.trans h3, h3.blk G10.out.2.2.1 HNE.out (by decide), G10.out.2.2.2.keep h3.below⟩
      clear h2 h3
      have q0v11 : v11.cell? ⟨w.heap.size, 0, none⟩ = some (.int .i64 1) := by rw [G11.out.2.2.1.cell 0]; rfl
      have q1v11 : v11.cell? ⟨w.heap.size, 1, none⟩ = some (.pointer none) := by rw [G11.out.2.2.1.cell 1]; rfl
      go_wp2_with fail
      refine (put1 b _ ⟨#[41]⟩ v11 G11.out.1 (by have h9 := HL.out; (try simp at h9 ⊢); omega)).mono ?_
      rintro _ v12 ⟨rfl, h2, h3⟩
      have G12 : Hid (WS b (l ++ [99, 111, 117, 110, 116, 40] ++ [42] ++ prN 1 .nil ++ [41]) v12 ∧ WK b w v12 ∧ Blk w.heap.size #[.int .i64 1, .pointer none] 148 v12 ∧ TrAt b v12 none .nil) := ⟨h2, G11.out.2.1.trans h3, h3.blk G11.out.2.2.1 HNE.out (by decide), G11.out.2.2.2.keep h3.below⟩
      clear h2 h3
      have q0v12 : v12.cell? ⟨w.heap.size, 0, none⟩ = some (.int .i64 1) := by rw [G12.out.2.2.1.cell 0]; rfl
      have q1v12 : v12.cell? ⟨w.heap.size, 1, none⟩ = some (.pointer none) := by rw [G12.out.2.2.1.cell 1]; rfl
      have HQ : Hid (WS b (l ++ R) v12 ∧ WK b w v12) := ⟨by rw [HR.out]; simpa [List.append_assoc] using G12.out.1, G12.out.2.1⟩
      go_wp2
      go_end0
      exact ⟨rfl, HQ.out.1, HQ.out.2⟩
    | node c v nm x y =>
      obtain ⟨B, pl, pr, rfl, _, _, _⟩ := ht.node
      have HR : Hid (itemT 1 (.node c v nm x y) = [99, 111, 117, 110, 116, 40] ++ prN 1 (.node c v nm x y) ++ [41]) := by show _ = _; exact if_pos (by decide)
      have HL : Hid (l.length + ([99, 111, 117, 110, 116, 40] ++ prN 1 (.node c v nm x y) ++ [41]).length ≤ 1000000) := by show _ ≤ _; rw [← HR.out]; exact hl
      obtain ⟨R, hR⟩ : ∃ R, itemT 1 (.node c v nm x y) = R := ⟨_, rfl⟩
      rw [hR] at HR ⊢
      obtain ⟨W, hW⟩ : ∃ W, w.alloc (.cells #[.int .i64 1, .pointer (some ⟨B, 0, none⟩)] 148) = W := ⟨_, rfl⟩
      have G0 : Hid (WS b l W ∧ WK b w W ∧ Blk w.heap.size #[.int .i64 1, .pointer (some ⟨B, 0, none⟩)] 148 W ∧ TrAt b W (some ⟨B, 0, none⟩) (.node c v nm x y)) := by rw [← hW]; exact ⟨hw.alloc _, (WK.refl _ _).alloc (Nat.le_of_lt hw.wr.lt) _, Blk.new _ _ _, ht.keep ((Below.refl _ _).alloc (Nat.le_of_lt hw.wr.lt) _)⟩
      have HNE : Hid (w.heap.size ≠ b) := by have := hw.wr.lt; show _ ≠ _; omega
      clear hl hR hw ht
      have q0W : W.cell? ⟨w.heap.size, 0, none⟩ = some (.int .i64 1) := by rw [G0.out.2.2.1.cell 0]; rfl
      have q1W : W.cell? ⟨w.heap.size, 1, none⟩ = some (.pointer (some ⟨B, 0, none⟩)) := by rw [G0.out.2.2.1.cell 1]; rfl
      go_enter Tryz.func102, Tryz.ntmps102
      go_wp2_with fail
      refine (put1 b _ ⟨#[99, 111, 117, 110, 116, 40]⟩ W G0.out.1 (by have h9 := HL.out; (try simp at h9 ⊢); omega)).mono ?_
      rintro _ v13 ⟨rfl, h2, h3⟩
      have G13 : Hid (WS b (l ++ [99, 111, 117, 110, 116, 40]) v13 ∧ WK b w v13 ∧ Blk w.heap.size #[.int .i64 1, .pointer (some ⟨B, 0, none⟩)] 148 v13 ∧ TrAt b v13 (some ⟨B, 0, none⟩) (.node c v nm x y)) := ⟨h2, G0.out.2.1.trans h3, h3.blk G0.out.2.2.1 HNE.out (by decide), G0.out.2.2.2.keep h3.below⟩
      clear h2 h3
      have q0v13 : v13.cell? ⟨w.heap.size, 0, none⟩ = some (.int .i64 1) := by rw [G13.out.2.2.1.cell 0]; rfl
      have q1v13 : v13.cell? ⟨w.heap.size, 1, none⟩ = some (.pointer (some ⟨B, 0, none⟩)) := by rw [G13.out.2.2.1.cell 1]; rfl
      go_wp2_with fail
      refine (HE.out b _ 1 _ v13 G13.out.1 G13.out.2.2.2 (by have h9 := HL.out; (try simp at h9 ⊢); omega)).mono ?_
      rintro _ v14 ⟨rfl, h2, h3⟩
      have G14 : Hid (WS b (l ++ [99, 111, 117, 110, 116, 40] ++ prN 1 (.node c v nm x y)) v14 ∧ WK b w v14 ∧ Blk w.heap.size #[.int .i64 1, .pointer (some ⟨B, 0, none⟩)] 148 v14 ∧ TrAt b v14 (some ⟨B, 0, none⟩) (.node c v nm x y)) := ⟨h2, G13.out.2.1.trans h3, h3.blk G13.out.2.2.1 HNE.out (by decide), G13.out.2.2.2.keep h3.below⟩
      clear h2 h3
      have q0v14 : v14.cell? ⟨w.heap.size, 0, none⟩ = some (.int .i64 1) := by rw [G14.out.2.2.1.cell 0]; rfl
      have q1v14 : v14.cell? ⟨w.heap.size, 1, none⟩ = some (.pointer (some ⟨B, 0, none⟩)) := by rw [G14.out.2.2.1.cell 1]; rfl
      go_wp2_with fail
      refine (put1 b _ ⟨#[41]⟩ v14 G14.out.1 (by have h9 := HL.out; (try simp at h9 ⊢); omega)).mono ?_
      rintro _ v15 ⟨rfl, h2, h3⟩
      have G15 : Hid (WS b (l ++ [99, 111, 117, 110, 116, 40] ++ prN 1 (.node c v nm x y) ++ [41]) v15 ∧ WK b w v15 ∧ Blk w.heap.size #[.int .i64 1, .pointer (some ⟨B, 0, none⟩)] 148 v15 ∧ TrAt b v15 (some ⟨B, 0, none⟩) (.node c v nm x y)) := ⟨h2, G14.out.2.1.trans h3, h3.blk G14.out.2.2.1 HNE.out (by decide), G14.out.2.2.2.keep h3.below⟩
      clear h2 h3
      have q0v15 : v15.cell? ⟨w.heap.size, 0, none⟩ = some (.int .i64 1) := by rw [G15.out.2.2.1.cell 0]; rfl
      have q1v15 : v15.cell? ⟨w.heap.size, 1, none⟩ = some (.pointer (some ⟨B, 0, none⟩)) := by rw [G15.out.2.2.1.cell 1]; rfl
      have HQ : Hid (WS b (l ++ R) v15 ∧ WK b w v15) := ⟨by rw [HR.out]; simpa [List.append_assoc] using G15.out.1, G15.out.2.1⟩
      go_wp2
      go_end0
      exact ⟨rfl, HQ.out.1, HQ.out.2⟩
  by_cases h2 : o = 2
  · subst h2
    cases e with
    | nil =>
      obtain rfl := ht.nil
      have HR : Hid (itemT 2 .nil = [115, 117, 109, 40] ++ [42] ++ prN 1 .nil ++ [41]) := by show _ = _; rfl
      have HL : Hid (l.length + ([115, 117, 109, 40] ++ [42] ++ prN 1 .nil ++ [41]).length ≤ 1000000) := by show _ ≤ _; rw [← HR.out]; exact hl
      obtain ⟨R, hR⟩ : ∃ R, itemT 2 .nil = R := ⟨_, rfl⟩
      rw [hR] at HR ⊢
      obtain ⟨W, hW⟩ : ∃ W, w.alloc (.cells #[.int .i64 2, .pointer none] 148) = W := ⟨_, rfl⟩
      have G0 : Hid (WS b l W ∧ WK b w W ∧ Blk w.heap.size #[.int .i64 2, .pointer none] 148 W ∧ TrAt b W none .nil) := by rw [← hW]; exact ⟨hw.alloc _, (WK.refl _ _).alloc (Nat.le_of_lt hw.wr.lt) _, Blk.new _ _ _, ht.keep ((Below.refl _ _).alloc (Nat.le_of_lt hw.wr.lt) _)⟩
      have HNE : Hid (w.heap.size ≠ b) := by have := hw.wr.lt; show _ ≠ _; omega
      clear hl hR hw ht
      have q0W : W.cell? ⟨w.heap.size, 0, none⟩ = some (.int .i64 2) := by rw [G0.out.2.2.1.cell 0]; rfl
      have q1W : W.cell? ⟨w.heap.size, 1, none⟩ = some (.pointer none) := by rw [G0.out.2.2.1.cell 1]; rfl
      go_enter Tryz.func102, Tryz.ntmps102
      go_wp2_with fail
      refine (put1 b _ ⟨#[115, 117, 109, 40]⟩ W G0.out.1 (by have h9 := HL.out; (try simp at h9 ⊢); omega)).mono ?_
      rintro _ v16 ⟨rfl, h2, h3⟩
      have G16 : Hid (WS b (l ++ [115, 117, 109, 40]) v16 ∧ WK b w v16 ∧ Blk w.heap.size #[.int .i64 2, .pointer none] 148 v16 ∧ TrAt b v16 none .nil) := ⟨h2, G0.out.2.1.trans h3, h3.blk G0.out.2.2.1 HNE.out (by decide), G0.out.2.2.2.keep h3.below⟩
      clear h2 h3
      have q0v16 : v16.cell? ⟨w.heap.size, 0, none⟩ = some (.int .i64 2) := by rw [G16.out.2.2.1.cell 0]; rfl
      have q1v16 : v16.cell? ⟨w.heap.size, 1, none⟩ = some (.pointer none) := by rw [G16.out.2.2.1.cell 1]; rfl
      go_wp2_with fail
      refine (put1 b _ ⟨#[42]⟩ v16 G16.out.1 (by have h9 := HL.out; (try simp at h9 ⊢); omega)).mono ?_
      rintro _ v17 ⟨rfl, h2, h3⟩
      have G17 : Hid (WS b (l ++ [115, 117, 109, 40] ++ [42]) v17 ∧ WK b w v17 ∧ Blk w.heap.size #[.int .i64 2, .pointer none] 148 v17 ∧ TrAt b v17 none .nil) := ⟨h2, G16.out.2.1.trans h3, h3.blk G16.out.2.2.1 HNE.out (by decide), G16.out.2.2.2.keep h3.below⟩
      clear h2 h3
      have q0v17 : v17.cell? ⟨w.heap.size, 0, none⟩ = some (.int .i64 2) := by rw [G17.out.2.2.1.cell 0]; rfl
      have q1v17 : v17.cell? ⟨w.heap.size, 1, none⟩ = some (.pointer none) := by rw [G17.out.2.2.1.cell 1]; rfl
      go_wp2_with fail
      refine (HE.out b _ 1 _ v17 G17.out.1 G17.out.2.2.2 (by have h9 := HL.out; (try simp at h9 ⊢); omega)).mono ?_
      rintro _ v18 ⟨rfl, h2, h3⟩
      have G18 : Hid (WS b (l ++ [115, 117, 109, 40] ++ [42] ++ prN 1 .nil) v18 ∧ WK b w v18 ∧ Blk w.heap.size #[.int .i64 2, .pointer none] 148 v18 ∧ TrAt b v18 none .nil) := ⟨h2, G17.out.2.1.trans h3, h3.blk G17.out.2.2.1 HNE.out (by decide), G17.out.2.2.2.keep h3.below⟩
      clear h2 h3
      have q0v18 : v18.cell? ⟨w.heap.size, 0, none⟩ = some (.int .i64 2) := by rw [G18.out.2.2.1.cell 0]; rfl
      have q1v18 : v18.cell? ⟨w.heap.size, 1, none⟩ = some (.pointer none) := by rw [G18.out.2.2.1.cell 1]; rfl
      go_wp2_with fail
      refine (put1 b _ ⟨#[41]⟩ v18 G18.out.1 (by have h9 := HL.out; (try simp at h9 ⊢); omega)).mono ?_
      rintro _ v19 ⟨rfl, h2, h3⟩
      have G19 : Hid (WS b (l ++ [115, 117, 109, 40] ++ [42] ++ prN 1 .nil ++ [41]) v19 ∧ WK b w v19 ∧ Blk w.heap.size #[.int .i64 2, .pointer none] 148 v19 ∧ TrAt b v19 none .nil) := ⟨h2, G18.out.2.1.trans h3, h3.blk G18.out.2.2.1 HNE.out (by decide), G18.out.2.2.2.keep h3.below⟩
      clear h2 h3
      have q0v19 : v19.cell? ⟨w.heap.size, 0, none⟩ = some (.int .i64 2) := by rw [G19.out.2.2.1.cell 0]; rfl
      have q1v19 : v19.cell? ⟨w.heap.size, 1, none⟩ = some (.pointer none) := by rw [G19.out.2.2.1.cell 1]; rfl
      have HQ : Hid (WS b (l ++ R) v19 ∧ WK b w v19) := ⟨by rw [HR.out]; simpa [List.append_assoc] using G19.out.1, G19.out.2.1⟩
      go_wp2
      go_end0
      exact ⟨rfl, HQ.out.1, HQ.out.2⟩
    | node c v nm x y =>
      obtain ⟨B, pl, pr, rfl, _, _, _⟩ := ht.node
      have HR : Hid (itemT 2 (.node c v nm x y) = [115, 117, 109, 40] ++ prN 1 (.node c v nm x y) ++ [41]) := by show _ = _; exact if_pos (by decide)
      have HL : Hid (l.length + ([115, 117, 109, 40] ++ prN 1 (.node c v nm x y) ++ [41]).length ≤ 1000000) := by show _ ≤ _; rw [← HR.out]; exact hl
      obtain ⟨R, hR⟩ : ∃ R, itemT 2 (.node c v nm x y) = R := ⟨_, rfl⟩
      rw [hR] at HR ⊢
      obtain ⟨W, hW⟩ : ∃ W, w.alloc (.cells #[.int .i64 2, .pointer (some ⟨B, 0, none⟩)] 148) = W := ⟨_, rfl⟩
      have G0 : Hid (WS b l W ∧ WK b w W ∧ Blk w.heap.size #[.int .i64 2, .pointer (some ⟨B, 0, none⟩)] 148 W ∧ TrAt b W (some ⟨B, 0, none⟩) (.node c v nm x y)) := by rw [← hW]; exact ⟨hw.alloc _, (WK.refl _ _).alloc (Nat.le_of_lt hw.wr.lt) _, Blk.new _ _ _, ht.keep ((Below.refl _ _).alloc (Nat.le_of_lt hw.wr.lt) _)⟩
      have HNE : Hid (w.heap.size ≠ b) := by have := hw.wr.lt; show _ ≠ _; omega
      clear hl hR hw ht
      have q0W : W.cell? ⟨w.heap.size, 0, none⟩ = some (.int .i64 2) := by rw [G0.out.2.2.1.cell 0]; rfl
      have q1W : W.cell? ⟨w.heap.size, 1, none⟩ = some (.pointer (some ⟨B, 0, none⟩)) := by rw [G0.out.2.2.1.cell 1]; rfl
      go_enter Tryz.func102, Tryz.ntmps102
      go_wp2_with fail
      refine (put1 b _ ⟨#[115, 117, 109, 40]⟩ W G0.out.1 (by have h9 := HL.out; (try simp at h9 ⊢); omega)).mono ?_
      rintro _ v20 ⟨rfl, h2, h3⟩
      have G20 : Hid (WS b (l ++ [115, 117, 109, 40]) v20 ∧ WK b w v20 ∧ Blk w.heap.size #[.int .i64 2, .pointer (some ⟨B, 0, none⟩)] 148 v20 ∧ TrAt b v20 (some ⟨B, 0, none⟩) (.node c v nm x y)) := ⟨h2, G0.out.2.1.trans h3, h3.blk G0.out.2.2.1 HNE.out (by decide), G0.out.2.2.2.keep h3.below⟩
      clear h2 h3
      have q0v20 : v20.cell? ⟨w.heap.size, 0, none⟩ = some (.int .i64 2) := by rw [G20.out.2.2.1.cell 0]; rfl
      have q1v20 : v20.cell? ⟨w.heap.size, 1, none⟩ = some (.pointer (some ⟨B, 0, none⟩)) := by rw [G20.out.2.2.1.cell 1]; rfl
      go_wp2_with fail
      refine (HE.out b _ 1 _ v20 G20.out.1 G20.out.2.2.2 (by have h9 := HL.out; (try simp at h9 ⊢); omega)).mono ?_
      rintro _ v21 ⟨rfl, h2, h3⟩
      have G21 : Hid (WS b (l ++ [115, 117, 109, 40] ++ prN 1 (.node c v nm x y)) v21 ∧ WK b w v21 ∧ Blk w.heap.size #[.int .i64 2, .pointer (some ⟨B, 0, none⟩)] 148 v21 ∧ TrAt b v21 (some ⟨B, 0, none⟩) (.node c v nm x y)) := ⟨h2, G20.out.2.1.trans h3, h3.blk G20.out.2.2.1 HNE.out (by decide), G20.out.2.2.2.keep h3.below⟩
      clear h2 h3
      have q0v21 : v21.cell? ⟨w.heap.size, 0, none⟩ = some (.int .i64 2) := by rw [G21.out.2.2.1.cell 0]; rfl
      have q1v21 : v21.cell? ⟨w.heap.size, 1, none⟩ = some (.pointer (some ⟨B, 0, none⟩)) := by rw [G21.out.2.2.1.cell 1]; rfl
      go_wp2_with fail
      refine (put1 b _ ⟨#[41]⟩ v21 G21.out.1 (by have h9 := HL.out; (try simp at h9 ⊢); omega)).mono ?_
      rintro _ v22 ⟨rfl, h2, h3⟩
      have G22 : Hid (WS b (l ++ [115, 117, 109, 40] ++ prN 1 (.node c v nm x y) ++ [41]) v22 ∧ WK b w v22 ∧ Blk w.heap.size #[.int .i64 2, .pointer (some ⟨B, 0, none⟩)] 148 v22 ∧ TrAt b v22 (some ⟨B, 0, none⟩) (.node c v nm x y)) := ⟨h2, G21.out.2.1.trans h3, h3.blk G21.out.2.2.1 HNE.out (by decide), G21.out.2.2.2.keep h3.below⟩
      clear h2 h3
      have q0v22 : v22.cell? ⟨w.heap.size, 0, none⟩ = some (.int .i64 2) := by rw [G22.out.2.2.1.cell 0]; rfl
      have q1v22 : v22.cell? ⟨w.heap.size, 1, none⟩ = some (.pointer (some ⟨B, 0, none⟩)) := by rw [G22.out.2.2.1.cell 1]; rfl
      have HQ : Hid (WS b (l ++ R) v22 ∧ WK b w v22) := ⟨by rw [HR.out]; simpa [List.append_assoc] using G22.out.1, G22.out.2.1⟩
      go_wp2
      go_end0
      exact ⟨rfl, HQ.out.1, HQ.out.2⟩
  by_cases h3 : o = 3
  · subst h3
    cases e with
    | nil =>
      obtain rfl := ht.nil
      have HR : Hid (itemT 3 .nil = [109, 105, 110, 40] ++ [42] ++ prN 1 .nil ++ [41]) := by show _ = _; rfl
      have HL : Hid (l.length + ([109, 105, 110, 40] ++ [42] ++ prN 1 .nil ++ [41]).length ≤ 1000000) := by show _ ≤ _; rw [← HR.out]; exact hl
      obtain ⟨R, hR⟩ : ∃ R, itemT 3 .nil = R := ⟨_, rfl⟩
      rw [hR] at HR ⊢
      obtain ⟨W, hW⟩ : ∃ W, w.alloc (.cells #[.int .i64 3, .pointer none] 148) = W := ⟨_, rfl⟩
      have G0 : Hid (WS b l W ∧ WK b w W ∧ Blk w.heap.size #[.int .i64 3, .pointer none] 148 W ∧ TrAt b W none .nil) := by rw [← hW]; exact ⟨hw.alloc _, (WK.refl _ _).alloc (Nat.le_of_lt hw.wr.lt) _, Blk.new _ _ _, ht.keep ((Below.refl _ _).alloc (Nat.le_of_lt hw.wr.lt) _)⟩
      have HNE : Hid (w.heap.size ≠ b) := by have := hw.wr.lt; show _ ≠ _; omega
      clear hl hR hw ht
      have q0W : W.cell? ⟨w.heap.size, 0, none⟩ = some (.int .i64 3) := by rw [G0.out.2.2.1.cell 0]; rfl
      have q1W : W.cell? ⟨w.heap.size, 1, none⟩ = some (.pointer none) := by rw [G0.out.2.2.1.cell 1]; rfl
      go_enter Tryz.func102, Tryz.ntmps102
      go_wp2_with fail
      refine (put1 b _ ⟨#[109, 105, 110, 40]⟩ W G0.out.1 (by have h9 := HL.out; (try simp at h9 ⊢); omega)).mono ?_
      rintro _ v23 ⟨rfl, h2, h3⟩
      have G23 : Hid (WS b (l ++ [109, 105, 110, 40]) v23 ∧ WK b w v23 ∧ Blk w.heap.size #[.int .i64 3, .pointer none] 148 v23 ∧ TrAt b v23 none .nil) := ⟨h2, G0.out.2.1.trans h3, h3.blk G0.out.2.2.1 HNE.out (by decide), G0.out.2.2.2.keep h3.below⟩
      clear h2 h3
      have q0v23 : v23.cell? ⟨w.heap.size, 0, none⟩ = some (.int .i64 3) := by rw [G23.out.2.2.1.cell 0]; rfl
      have q1v23 : v23.cell? ⟨w.heap.size, 1, none⟩ = some (.pointer none) := by rw [G23.out.2.2.1.cell 1]; rfl
      go_wp2_with fail
      refine (put1 b _ ⟨#[42]⟩ v23 G23.out.1 (by have h9 := HL.out; (try simp at h9 ⊢); omega)).mono ?_
      rintro _ v24 ⟨rfl, h2, h3⟩
      have G24 : Hid (WS b (l ++ [109, 105, 110, 40] ++ [42]) v24 ∧ WK b w v24 ∧ Blk w.heap.size #[.int .i64 3, .pointer none] 148 v24 ∧ TrAt b v24 none .nil) := ⟨h2, G23.out.2.1.trans h3, h3.blk G23.out.2.2.1 HNE.out (by decide), G23.out.2.2.2.keep h3.below⟩
      clear h2 h3
      have q0v24 : v24.cell? ⟨w.heap.size, 0, none⟩ = some (.int .i64 3) := by rw [G24.out.2.2.1.cell 0]; rfl
      have q1v24 : v24.cell? ⟨w.heap.size, 1, none⟩ = some (.pointer none) := by rw [G24.out.2.2.1.cell 1]; rfl
      go_wp2_with fail
      refine (HE.out b _ 1 _ v24 G24.out.1 G24.out.2.2.2 (by have h9 := HL.out; (try simp at h9 ⊢); omega)).mono ?_
      rintro _ v25 ⟨rfl, h2, h3⟩
      have G25 : Hid (WS b (l ++ [109, 105, 110, 40] ++ [42] ++ prN 1 .nil) v25 ∧ WK b w v25 ∧ Blk w.heap.size #[.int .i64 3, .pointer none] 148 v25 ∧ TrAt b v25 none .nil) := ⟨h2, G24.out.2.1.trans h3, h3.blk G24.out.2.2.1 HNE.out (by decide), G24.out.2.2.2.keep h3.below⟩
      clear h2 h3
      have q0v25 : v25.cell? ⟨w.heap.size, 0, none⟩ = some (.int .i64 3) := by rw [G25.out.2.2.1.cell 0]; rfl
      have q1v25 : v25.cell? ⟨w.heap.size, 1, none⟩ = some (.pointer none) := by rw [G25.out.2.2.1.cell 1]; rfl
      go_wp2_with fail
      refine (put1 b _ ⟨#[41]⟩ v25 G25.out.1 (by have h9 := HL.out; (try simp at h9 ⊢); omega)).mono ?_
      rintro _ v26 ⟨rfl, h2, h3⟩
      have G26 : Hid (WS b (l ++ [109, 105, 110, 40] ++ [42] ++ prN 1 .nil ++ [41]) v26 ∧ WK b w v26 ∧ Blk w.heap.size #[.int .i64 3, .pointer none] 148 v26 ∧ TrAt b v26 none .nil) := ⟨h2, G25.out.2.1.trans h3, h3.blk G25.out.2.2.1 HNE.out (by decide), G25.out.2.2.2.keep h3.below⟩
      clear h2 h3
      have q0v26 : v26.cell? ⟨w.heap.size, 0, none⟩ = some (.int .i64 3) := by rw [G26.out.2.2.1.cell 0]; rfl
      have q1v26 : v26.cell? ⟨w.heap.size, 1, none⟩ = some (.pointer none) := by rw [G26.out.2.2.1.cell 1]; rfl
      have HQ : Hid (WS b (l ++ R) v26 ∧ WK b w v26) := ⟨by rw [HR.out]; simpa [List.append_assoc] using G26.out.1, G26.out.2.1⟩
      go_wp2
      go_end0
      exact ⟨rfl, HQ.out.1, HQ.out.2⟩
    | node c v nm x y =>
      obtain ⟨B, pl, pr, rfl, _, _, _⟩ := ht.node
      have HR : Hid (itemT 3 (.node c v nm x y) = [109, 105, 110, 40] ++ prN 1 (.node c v nm x y) ++ [41]) := by show _ = _; exact if_pos (by decide)
      have HL : Hid (l.length + ([109, 105, 110, 40] ++ prN 1 (.node c v nm x y) ++ [41]).length ≤ 1000000) := by show _ ≤ _; rw [← HR.out]; exact hl
      obtain ⟨R, hR⟩ : ∃ R, itemT 3 (.node c v nm x y) = R := ⟨_, rfl⟩
      rw [hR] at HR ⊢
      obtain ⟨W, hW⟩ : ∃ W, w.alloc (.cells #[.int .i64 3, .pointer (some ⟨B, 0, none⟩)] 148) = W := ⟨_, rfl⟩
      have G0 : Hid (WS b l W ∧ WK b w W ∧ Blk w.heap.size #[.int .i64 3, .pointer (some ⟨B, 0, none⟩)] 148 W ∧ TrAt b W (some ⟨B, 0, none⟩) (.node c v nm x y)) := by rw [← hW]; exact ⟨hw.alloc _, (WK.refl _ _).alloc (Nat.le_of_lt hw.wr.lt) _, Blk.new _ _ _, ht.keep ((Below.refl _ _).alloc (Nat.le_of_lt hw.wr.lt) _)⟩
      have HNE : Hid (w.heap.size ≠ b) := by have := hw.wr.lt; show _ ≠ _; omega
      clear hl hR hw ht
      have q0W : W.cell? ⟨w.heap.size, 0, none⟩ = some (.int .i64 3) := by rw [G0.out.2.2.1.cell 0]; rfl
      have q1W : W.cell? ⟨w.heap.size, 1, none⟩ = some (.pointer (some ⟨B, 0, none⟩)) := by rw [G0.out.2.2.1.cell 1]; rfl
      go_enter Tryz.func102, Tryz.ntmps102
      go_wp2_with fail
      refine (put1 b _ ⟨#[109, 105, 110, 40]⟩ W G0.out.1 (by have h9 := HL.out; (try simp at h9 ⊢); omega)).mono ?_
      rintro _ v27 ⟨rfl, h2, h3⟩
      have G27 : Hid (WS b (l ++ [109, 105, 110, 40]) v27 ∧ WK b w v27 ∧ Blk w.heap.size #[.int .i64 3, .pointer (some ⟨B, 0, none⟩)] 148 v27 ∧ TrAt b v27 (some ⟨B, 0, none⟩) (.node c v nm x y)) := ⟨h2, G0.out.2.1.trans h3, h3.blk G0.out.2.2.1 HNE.out (by decide), G0.out.2.2.2.keep h3.below⟩
      clear h2 h3
      have q0v27 : v27.cell? ⟨w.heap.size, 0, none⟩ = some (.int .i64 3) := by rw [G27.out.2.2.1.cell 0]; rfl
      have q1v27 : v27.cell? ⟨w.heap.size, 1, none⟩ = some (.pointer (some ⟨B, 0, none⟩)) := by rw [G27.out.2.2.1.cell 1]; rfl
      go_wp2_with fail
      refine (HE.out b _ 1 _ v27 G27.out.1 G27.out.2.2.2 (by have h9 := HL.out; (try simp at h9 ⊢); omega)).mono ?_
      rintro _ v28 ⟨rfl, h2, h3⟩
      have G28 : Hid (WS b (l ++ [109, 105, 110, 40] ++ prN 1 (.node c v nm x y)) v28 ∧ WK b w v28 ∧ Blk w.heap.size #[.int .i64 3, .pointer (some ⟨B, 0, none⟩)] 148 v28 ∧ TrAt b v28 (some ⟨B, 0, none⟩) (.node c v nm x y)) := ⟨h2, G27.out.2.1.trans h3, h3.blk G27.out.2.2.1 HNE.out (by decide), G27.out.2.2.2.keep h3.below⟩
      clear h2 h3
      have q0v28 : v28.cell? ⟨w.heap.size, 0, none⟩ = some (.int .i64 3) := by rw [G28.out.2.2.1.cell 0]; rfl
      have q1v28 : v28.cell? ⟨w.heap.size, 1, none⟩ = some (.pointer (some ⟨B, 0, none⟩)) := by rw [G28.out.2.2.1.cell 1]; rfl
      go_wp2_with fail
      refine (put1 b _ ⟨#[41]⟩ v28 G28.out.1 (by have h9 := HL.out; (try simp at h9 ⊢); omega)).mono ?_
      rintro _ v29 ⟨rfl, h2, h3⟩
      have G29 : Hid (WS b (l ++ [109, 105, 110, 40] ++ prN 1 (.node c v nm x y) ++ [41]) v29 ∧ WK b w v29 ∧ Blk w.heap.size #[.int .i64 3, .pointer (some ⟨B, 0, none⟩)] 148 v29 ∧ TrAt b v29 (some ⟨B, 0, none⟩) (.node c v nm x y)) := ⟨h2, G28.out.2.1.trans h3, h3.blk G28.out.2.2.1 HNE.out (by decide), G28.out.2.2.2.keep h3.below⟩
      clear h2 h3
      have q0v29 : v29.cell? ⟨w.heap.size, 0, none⟩ = some (.int .i64 3) := by rw [G29.out.2.2.1.cell 0]; rfl
      have q1v29 : v29.cell? ⟨w.heap.size, 1, none⟩ = some (.pointer (some ⟨B, 0, none⟩)) := by rw [G29.out.2.2.1.cell 1]; rfl
      have HQ : Hid (WS b (l ++ R) v29 ∧ WK b w v29) := ⟨by rw [HR.out]; simpa [List.append_assoc] using G29.out.1, G29.out.2.1⟩
      go_wp2
      go_end0
      exact ⟨rfl, HQ.out.1, HQ.out.2⟩
  by_cases h4 : o = 4
  · subst h4
    cases e with
    | nil =>
      obtain rfl := ht.nil
      have HR : Hid (itemT 4 .nil = [109, 97, 120, 40] ++ [42] ++ prN 1 .nil ++ [41]) := by show _ = _; rfl
      have HL : Hid (l.length + ([109, 97, 120, 40] ++ [42] ++ prN 1 .nil ++ [41]).length ≤ 1000000) := by show _ ≤ _; rw [← HR.out]; exact hl
      obtain ⟨R, hR⟩ : ∃ R, itemT 4 .nil = R := ⟨_, rfl⟩
      rw [hR] at HR ⊢
      obtain ⟨W, hW⟩ : ∃ W, w.alloc (.cells #[.int .i64 4, .pointer none] 148) = W := ⟨_, rfl⟩
      have G0 : Hid (WS b l W ∧ WK b w W ∧ Blk w.heap.size #[.int .i64 4, .pointer none] 148 W ∧ TrAt b W none .nil) := by rw [← hW]; exact ⟨hw.alloc _, (WK.refl _ _).alloc (Nat.le_of_lt hw.wr.lt) _, Blk.new _ _ _, ht.keep ((Below.refl _ _).alloc (Nat.le_of_lt hw.wr.lt) _)⟩
      have HNE : Hid (w.heap.size ≠ b) := by have := hw.wr.lt; show _ ≠ _; omega
      clear hl hR hw ht
      have q0W : W.cell? ⟨w.heap.size, 0, none⟩ = some (.int .i64 4) := by rw [G0.out.2.2.1.cell 0]; rfl
      have q1W : W.cell? ⟨w.heap.size, 1, none⟩ = some (.pointer none) := by rw [G0.out.2.2.1.cell 1]; rfl
      go_enter Tryz.func102, Tryz.ntmps102
      go_wp2_with fail
      refine (put1 b _ ⟨#[109, 97, 120, 40]⟩ W G0.out.1 (by have h9 := HL.out; (try simp at h9 ⊢); omega)).mono ?_
      rintro _ v30 ⟨rfl, h2, h3⟩
      have G30 : Hid (WS b (l ++ [109, 97, 120, 40]) v30 ∧ WK b w v30 ∧ Blk w.heap.size #[.int .i64 4, .pointer none] 148 v30 ∧ TrAt b v30 none .nil) := ⟨h2, G0.out.2.1.trans h3, h3.blk G0.out.2.2.1 HNE.out (by decide), G0.out.2.2.2.keep h3.below⟩
      clear h2 h3
      have q0v30 : v30.cell? ⟨w.heap.size, 0, none⟩ = some (.int .i64 4) := by rw [G30.out.2.2.1.cell 0]; rfl
      have q1v30 : v30.cell? ⟨w.heap.size, 1, none⟩ = some (.pointer none) := by rw [G30.out.2.2.1.cell 1]; rfl
      go_wp2_with fail
      refine (put1 b _ ⟨#[42]⟩ v30 G30.out.1 (by have h9 := HL.out; (try simp at h9 ⊢); omega)).mono ?_
      rintro _ v31 ⟨rfl, h2, h3⟩
      have G31 : Hid (WS b (l ++ [109, 97, 120, 40] ++ [42]) v31 ∧ WK b w v31 ∧ Blk w.heap.size #[.int .i64 4, .pointer none] 148 v31 ∧ TrAt b v31 none .nil) := ⟨h2, G30.out.2.1.trans h3, h3.blk G30.out.2.2.1 HNE.out (by decide), G30.out.2.2.2.keep h3.below⟩
      clear h2 h3
      have q0v31 : v31.cell? ⟨w.heap.size, 0, none⟩ = some (.int .i64 4) := by rw [G31.out.2.2.1.cell 0]; rfl
      have q1v31 : v31.cell? ⟨w.heap.size, 1, none⟩ = some (.pointer none) := by rw [G31.out.2.2.1.cell 1]; rfl
      go_wp2_with fail
      refine (HE.out b _ 1 _ v31 G31.out.1 G31.out.2.2.2 (by have h9 := HL.out; (try simp at h9 ⊢); omega)).mono ?_
      rintro _ v32 ⟨rfl, h2, h3⟩
      have G32 : Hid (WS b (l ++ [109, 97, 120, 40] ++ [42] ++ prN 1 .nil) v32 ∧ WK b w v32 ∧ Blk w.heap.size #[.int .i64 4, .pointer none] 148 v32 ∧ TrAt b v32 none .nil) := ⟨h2, G31.out.2.1.trans h3, h3.blk G31.out.2.2.1 HNE.out (by decide), G31.out.2.2.2.keep h3.below⟩
      clear h2 h3
      have q0v32 : v32.cell? ⟨w.heap.size, 0, none⟩ = some (.int .i64 4) := by rw [G32.out.2.2.1.cell 0]; rfl
      have q1v32 : v32.cell? ⟨w.heap.size, 1, none⟩ = some (.pointer none) := by rw [G32.out.2.2.1.cell 1]; rfl
      go_wp2_with fail
      refine (put1 b _ ⟨#[41]⟩ v32 G32.out.1 (by have h9 := HL.out; (try simp at h9 ⊢); omega)).mono ?_
      rintro _ v33 ⟨rfl, h2, h3⟩
      have G33 : Hid (WS b (l ++ [109, 97, 120, 40] ++ [42] ++ prN 1 .nil ++ [41]) v33 ∧ WK b w v33 ∧ Blk w.heap.size #[.int .i64 4, .pointer none] 148 v33 ∧ TrAt b v33 none .nil) := ⟨h2, G32.out.2.1.trans h3, h3.blk G32.out.2.2.1 HNE.out (by decide), G32.out.2.2.2.keep h3.below⟩
      clear h2 h3
      have q0v33 : v33.cell? ⟨w.heap.size, 0, none⟩ = some (.int .i64 4) := by rw [G33.out.2.2.1.cell 0]; rfl
      have q1v33 : v33.cell? ⟨w.heap.size, 1, none⟩ = some (.pointer none) := by rw [G33.out.2.2.1.cell 1]; rfl
      have HQ : Hid (WS b (l ++ R) v33 ∧ WK b w v33) := ⟨by rw [HR.out]; simpa [List.append_assoc] using G33.out.1, G33.out.2.1⟩
      go_wp2
      go_end0
      exact ⟨rfl, HQ.out.1, HQ.out.2⟩
    | node c v nm x y =>
      obtain ⟨B, pl, pr, rfl, _, _, _⟩ := ht.node
      have HR : Hid (itemT 4 (.node c v nm x y) = [109, 97, 120, 40] ++ prN 1 (.node c v nm x y) ++ [41]) := by show _ = _; exact if_pos (by decide)
      have HL : Hid (l.length + ([109, 97, 120, 40] ++ prN 1 (.node c v nm x y) ++ [41]).length ≤ 1000000) := by show _ ≤ _; rw [← HR.out]; exact hl
      obtain ⟨R, hR⟩ : ∃ R, itemT 4 (.node c v nm x y) = R := ⟨_, rfl⟩
      rw [hR] at HR ⊢
      obtain ⟨W, hW⟩ : ∃ W, w.alloc (.cells #[.int .i64 4, .pointer (some ⟨B, 0, none⟩)] 148) = W := ⟨_, rfl⟩
      have G0 : Hid (WS b l W ∧ WK b w W ∧ Blk w.heap.size #[.int .i64 4, .pointer (some ⟨B, 0, none⟩)] 148 W ∧ TrAt b W (some ⟨B, 0, none⟩) (.node c v nm x y)) := by rw [← hW]; exact ⟨hw.alloc _, (WK.refl _ _).alloc (Nat.le_of_lt hw.wr.lt) _, Blk.new _ _ _, ht.keep ((Below.refl _ _).alloc (Nat.le_of_lt hw.wr.lt) _)⟩
      have HNE : Hid (w.heap.size ≠ b) := by have := hw.wr.lt; show _ ≠ _; omega
      clear hl hR hw ht
      have q0W : W.cell? ⟨w.heap.size, 0, none⟩ = some (.int .i64 4) := by rw [G0.out.2.2.1.cell 0]; rfl
      have q1W : W.cell? ⟨w.heap.size, 1, none⟩ = some (.pointer (some ⟨B, 0, none⟩)) := by rw [G0.out.2.2.1.cell 1]; rfl
      go_enter Tryz.func102, Tryz.ntmps102
      go_wp2_with fail
      refine (put1 b _ ⟨#[109, 97, 120, 40]⟩ W G0.out.1 (by have h9 := HL.out; (try simp at h9 ⊢); omega)).mono ?_
      rintro _ v34 ⟨rfl, h2, h3⟩
      have G34 : Hid (WS b (l ++ [109, 97, 120, 40]) v34 ∧ WK b w v34 ∧ Blk w.heap.size #[.int .i64 4, .pointer (some ⟨B, 0, none⟩)] 148 v34 ∧ TrAt b v34 (some ⟨B, 0, none⟩) (.node c v nm x y)) := ⟨h2, G0.out.2.1.trans h3, h3.blk G0.out.2.2.1 HNE.out (by decide), G0.out.2.2.2.keep h3.below⟩
      clear h2 h3
      have q0v34 : v34.cell? ⟨w.heap.size, 0, none⟩ = some (.int .i64 4) := by rw [G34.out.2.2.1.cell 0]; rfl
      have q1v34 : v34.cell? ⟨w.heap.size, 1, none⟩ = some (.pointer (some ⟨B, 0, none⟩)) := by rw [G34.out.2.2.1.cell 1]; rfl
      go_wp2_with fail
      refine (HE.out b _ 1 _ v34 G34.out.1 G34.out.2.2.2 (by have h9 := HL.out; (try simp at h9 ⊢); omega)).mono ?_
      rintro _ v35 ⟨rfl, h2, h3⟩
      have G35 : Hid (WS b (l ++ [109, 97, 120, 40] ++ prN 1 (.node c v nm x y)) v35 ∧ WK b w v35 ∧ Blk w.heap.size #[.int .i64 4, .pointer (some ⟨B, 0, none⟩)] 148 v35 ∧ TrAt b v35 (some ⟨B, 0, none⟩) (.node c v nm x y)) := ⟨h2, G34.out.2.1.trans h3, h3.blk G34.out.2.2.1 HNE.out (by decide), G34.out.2.2.2.keep h3.below⟩
      clear h2 h3
      have q0v35 : v35.cell? ⟨w.heap.size, 0, none⟩ = some (.int .i64 4) := by rw [G35.out.2.2.1.cell 0]; rfl
      have q1v35 : v35.cell? ⟨w.heap.size, 1, none⟩ = some (.pointer (some ⟨B, 0, none⟩)) := by rw [G35.out.2.2.1.cell 1]; rfl
      go_wp2_with fail
      refine (put1 b _ ⟨#[41]⟩ v35 G35.out.1 (by have h9 := HL.out; (try simp at h9 ⊢); omega)).mono ?_
      rintro _ v36 ⟨rfl, h2, h3⟩
      have G36 : Hid (WS b (l ++ [109, 97, 120, 40] ++ prN 1 (.node c v nm x y) ++ [41]) v36 ∧ WK b w v36 ∧ Blk w.heap.size #[.int .i64 4, .pointer (some ⟨B, 0, none⟩)] 148 v36 ∧ TrAt b v36 (some ⟨B, 0, none⟩) (.node c v nm x y)) := ⟨h2, G35.out.2.1.trans h3, h3.blk G35.out.2.2.1 HNE.out (by decide), G35.out.2.2.2.keep h3.below⟩
      clear h2 h3
      have q0v36 : v36.cell? ⟨w.heap.size, 0, none⟩ = some (.int .i64 4) := by rw [G36.out.2.2.1.cell 0]; rfl
      have q1v36 : v36.cell? ⟨w.heap.size, 1, none⟩ = some (.pointer (some ⟨B, 0, none⟩)) := by rw [G36.out.2.2.1.cell 1]; rfl
      have HQ : Hid (WS b (l ++ R) v36 ∧ WK b w v36) := ⟨by rw [HR.out]; simpa [List.append_assoc] using G36.out.1, G36.out.2.1⟩
      go_wp2
      go_end0
      exact ⟨rfl, HQ.out.1, HQ.out.2⟩
  have d1 := beq_f h1
  have d2 := beq_f h2
  have d3 := beq_f h3
  have d4 := beq_f h4
  cases e with
  | nil =>
    obtain rfl := ht.nil
    have HR : Hid (itemT o .nil = prN 1 .nil) := by show _ = _; exact if_neg (by omega)
    have HL : Hid (l.length + (prN 1 .nil).length ≤ 1000000) := by show _ ≤ _; rw [← HR.out]; exact hl
    obtain ⟨R, hR⟩ : ∃ R, itemT o .nil = R := ⟨_, rfl⟩
    rw [hR] at HR ⊢
    obtain ⟨W, hW⟩ : ∃ W, w.alloc (.cells #[.int .i64 o, .pointer none] 148) = W := ⟨_, rfl⟩
    have G0 : Hid (WS b l W ∧ WK b w W ∧ Blk w.heap.size #[.int .i64 o, .pointer none] 148 W ∧ TrAt b W none .nil) := by rw [← hW]; exact ⟨hw.alloc _, (WK.refl _ _).alloc (Nat.le_of_lt hw.wr.lt) _, Blk.new _ _ _, ht.keep ((Below.refl _ _).alloc (Nat.le_of_lt hw.wr.lt) _)⟩
    have HNE : Hid (w.heap.size ≠ b) := by have := hw.wr.lt; show _ ≠ _; omega
    clear hl hR hw ht
    have q0W : W.cell? ⟨w.heap.size, 0, none⟩ = some (.int .i64 o) := by rw [G0.out.2.2.1.cell 0]; rfl
    have q1W : W.cell? ⟨w.heap.size, 1, none⟩ = some (.pointer none) := by rw [G0.out.2.2.1.cell 1]; rfl
    go_enter Tryz.func102, Tryz.ntmps102
    go_wp2_with fail
    refine (HE.out b _ 1 _ W G0.out.1 G0.out.2.2.2 (by have h9 := HL.out; (try simp at h9 ⊢); omega)).mono ?_
    rintro _ v37 ⟨rfl, h2, h3⟩
    have G37 : Hid (WS b (l ++ prN 1 .nil) v37 ∧ WK b w v37 ∧ Blk w.heap.size #[.int .i64 o, .pointer none] 148 v37 ∧ TrAt b v37 none .nil) := ⟨h2, G0.out.2.1.trans h3, h3.blk G0.out.2.2.1 HNE.out (by decide), G0.out.2.2.2.keep h3.below⟩
    clear h2 h3
    have q0v37 : v37.cell? ⟨w.heap.size, 0, none⟩ = some (.int .i64 o) := by rw [G37.out.2.2.1.cell 0]; rfl
    have q1v37 : v37.cell? ⟨w.heap.size, 1, none⟩ = some (.pointer none) := by rw [G37.out.2.2.1.cell 1]; rfl
    have HQ : Hid (WS b (l ++ R) v37 ∧ WK b w v37) := ⟨by rw [HR.out]; simpa [List.append_assoc] using G37.out.1, G37.out.2.1⟩
    go_wp2
    refine bodyPost_ret (results_none rfl _ _ _) rfl ?_
    exact ⟨rfl, HQ.out.1, HQ.out.2⟩
  | node c v nm x y =>
    obtain ⟨B, pl, pr, rfl, _, _, _⟩ := ht.node
    have HR : Hid (itemT o (.node c v nm x y) = prN 1 (.node c v nm x y)) := by show _ = _; exact if_neg (by omega)
    have HL : Hid (l.length + (prN 1 (.node c v nm x y)).length ≤ 1000000) := by show _ ≤ _; rw [← HR.out]; exact hl
    obtain ⟨R, hR⟩ : ∃ R, itemT o (.node c v nm x y) = R := ⟨_, rfl⟩
    rw [hR] at HR ⊢
    obtain ⟨W, hW⟩ : ∃ W, w.alloc (.cells #[.int .i64 o, .pointer (some ⟨B, 0, none⟩)] 148) = W := ⟨_, rfl⟩
    have G0 : Hid (WS b l W ∧ WK b w W ∧ Blk w.heap.size #[.int .i64 o, .pointer (some ⟨B, 0, none⟩)] 148 W ∧ TrAt b W (some ⟨B, 0, none⟩) (.node c v nm x y)) := by rw [← hW]; exact ⟨hw.alloc _, (WK.refl _ _).alloc (Nat.le_of_lt hw.wr.lt) _, Blk.new _ _ _, ht.keep ((Below.refl _ _).alloc (Nat.le_of_lt hw.wr.lt) _)⟩
    have HNE : Hid (w.heap.size ≠ b) := by have := hw.wr.lt; show _ ≠ _; omega
    clear hl hR hw ht
    have q0W : W.cell? ⟨w.heap.size, 0, none⟩ = some (.int .i64 o) := by rw [G0.out.2.2.1.cell 0]; rfl
    have q1W : W.cell? ⟨w.heap.size, 1, none⟩ = some (.pointer (some ⟨B, 0, none⟩)) := by rw [G0.out.2.2.1.cell 1]; rfl
    go_enter Tryz.func102, Tryz.ntmps102
    go_wp2_with fail
    refine (HE.out b _ 1 _ W G0.out.1 G0.out.2.2.2 (by have h9 := HL.out; (try simp at h9 ⊢); omega)).mono ?_
    rintro _ v38 ⟨rfl, h2, h3⟩
    have G38 : Hid (WS b (l ++ prN 1 (.node c v nm x y)) v38 ∧ WK b w v38 ∧ Blk w.heap.size #[.int .i64 o, .pointer (some ⟨B, 0, none⟩)] 148 v38 ∧ TrAt b v38 (some ⟨B, 0, none⟩) (.node c v nm x y)) := ⟨h2, G0.out.2.1.trans h3, h3.blk G0.out.2.2.1 HNE.out (by decide), G0.out.2.2.2.keep h3.below⟩
    clear h2 h3
    have q0v38 : v38.cell? ⟨w.heap.size, 0, none⟩ = some (.int .i64 o) := by rw [G38.out.2.2.1.cell 0]; rfl
    have q1v38 : v38.cell? ⟨w.heap.size, 1, none⟩ = some (.pointer (some ⟨B, 0, none⟩)) := by rw [G38.out.2.2.1.cell 1]; rfl
    have HQ : Hid (WS b (l ++ R) v38 ∧ WK b w v38) := ⟨by rw [HR.out]; simpa [List.append_assoc] using G38.out.1, G38.out.2.1⟩
    go_wp2
    refine bodyPost_ret (results_none rfl _ _ _) rfl ?_
    exact ⟨rfl, HQ.out.1, HQ.out.2⟩
end Go.Proofs.YtbdcbaamjkjhaaaGreatDoor
