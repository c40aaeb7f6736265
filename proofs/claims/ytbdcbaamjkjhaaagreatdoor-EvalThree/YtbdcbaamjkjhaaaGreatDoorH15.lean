/- Part 15 of 35. -/
import Derived.Test.YtbdcbaamjkjhaaaGreatDoorH14
namespace Go.Proofs.YtbdcbaamjkjhaaaGreatDoor
open Go.RowKit

set_option maxRecDepth 100000 in
set_option maxHeartbeats 4000000 in
theorem wcolumn_any (n : ByteArray) (k : Int) (m u : Bool) (b : Nat) (l : List UInt8) (w : World) (hw : WS b l w) (hl : l.length + (colT n k m u).length ≤ 1000000) :
    Calls Tryz.prog 56 #[.pointer (some ⟨b, 0, none⟩), .agg #[.string n, .int .i64 k, .bool m, .bool u]] w fun r w' => Puts b l (colT n k m u) w r w' := by
  by_cases hk : k = 2
  · subst hk
    cases m <;> cases u
    · have HR : Hid (colT n 2 false false = n.data.toList ++ [32, 116, 101, 120, 116]) := by show _ = _; simp [colT]
      have HL : Hid (l.length + (n.data.toList ++ [32, 116, 101, 120, 116]).length ≤ 1000000) := by show _ ≤ _; rw [← HR.out]; exact hl
      obtain ⟨R, hR⟩ : ∃ R, colT n 2 false false = R := ⟨_, rfl⟩
      rw [hR] at HR ⊢
      obtain ⟨W, hW⟩ : ∃ W, w.alloc (.cells #[.string n, .int .i64 2, .bool false, .bool false] 115) = W := ⟨_, rfl⟩
      have G0 : Hid (WS b l W ∧ WK b w W ∧ Blk w.heap.size #[.string n, .int .i64 2, .bool false, .bool false] 115 W) := by rw [← hW]; exact ⟨hw.alloc _, (WK.refl _ _).alloc (Nat.le_of_lt hw.wr.lt) _, Blk.new _ _ _⟩
      have HNE : Hid (w.heap.size ≠ b) := by have := hw.wr.lt; show _ ≠ _; omega

      clear hl hR hw
      have q0W : W.cell? ⟨w.heap.size, 0, none⟩ = some (.string n) := by rw [G0.out.2.2.cell 0]; rfl
      have q1W : W.cell? ⟨w.heap.size, 1, none⟩ = some (.int .i64 2) := by rw [G0.out.2.2.cell 1]; rfl
      have q2W : W.cell? ⟨w.heap.size, 2, none⟩ = some (.bool false) := by rw [G0.out.2.2.cell 2]; rfl
      have q3W : W.cell? ⟨w.heap.size, 3, none⟩ = some (.bool false) := by rw [G0.out.2.2.cell 3]; rfl
      go_enter Tryz.func56, Tryz.ntmps56
      go_wp2_with fail
      refine (put1 b _ n W G0.out.1 (by have h9 := HL.out; simp at h9 ⊢; omega)).mono ?_
      rintro _ v1 ⟨rfl, h2, h3⟩
      have G1 : Hid (WS b (l ++ n.data.toList) v1 ∧ WK b w v1 ∧ Blk w.heap.size #[.string n, .int .i64 2, .bool false, .bool false] 115 v1) := ⟨h2, G0.out.2.1.trans h3, h3.blk G0.out.2.2 HNE.out (by decide)⟩
      clear h2 h3
      have q0v1 : v1.cell? ⟨w.heap.size, 0, none⟩ = some (.string n) := by rw [G1.out.2.2.cell 0]; rfl
      have q1v1 : v1.cell? ⟨w.heap.size, 1, none⟩ = some (.int .i64 2) := by rw [G1.out.2.2.cell 1]; rfl
      have q2v1 : v1.cell? ⟨w.heap.size, 2, none⟩ = some (.bool false) := by rw [G1.out.2.2.cell 2]; rfl
      have q3v1 : v1.cell? ⟨w.heap.size, 3, none⟩ = some (.bool false) := by rw [G1.out.2.2.cell 3]; rfl
      go_wp2_with fail
      refine (put1 b _ ⟨#[32, 116, 101, 120, 116]⟩ v1 G1.out.1 (by have h9 := HL.out; simp at h9 ⊢; omega)).mono ?_
      rintro _ v2 ⟨rfl, h2, h3⟩
      have G2 : Hid (WS b (l ++ n.data.toList ++ [32, 116, 101, 120, 116]) v2 ∧ WK b w v2 ∧ Blk w.heap.size #[.string n, .int .i64 2, .bool false, .bool false] 115 v2) := ⟨h2, G1.out.2.1.trans h3, h3.blk G1.out.2.2 HNE.out (by decide)⟩
      clear h2 h3
      have q0v2 : v2.cell? ⟨w.heap.size, 0, none⟩ = some (.string n) := by rw [G2.out.2.2.cell 0]; rfl
      have q1v2 : v2.cell? ⟨w.heap.size, 1, none⟩ = some (.int .i64 2) := by rw [G2.out.2.2.cell 1]; rfl
      have q2v2 : v2.cell? ⟨w.heap.size, 2, none⟩ = some (.bool false) := by rw [G2.out.2.2.cell 2]; rfl
      have q3v2 : v2.cell? ⟨w.heap.size, 3, none⟩ = some (.bool false) := by rw [G2.out.2.2.cell 3]; rfl
      have HQ : Hid (WS b (l ++ R) v2 ∧ WK b w v2) := ⟨by rw [HR.out]; simpa [List.append_assoc] using G2.out.1, G2.out.2.1⟩
      go_wp2
      go_end0
      exact ⟨rfl, HQ.out.1, HQ.out.2⟩
    · have HR : Hid (colT n 2 false true = n.data.toList ++ [32, 116, 101, 120, 116] ++ [32, 119, 111, 114, 100, 115]) := by show _ = _; simp [colT]
      have HL : Hid (l.length + (n.data.toList ++ [32, 116, 101, 120, 116] ++ [32, 119, 111, 114, 100, 115]).length ≤ 1000000) := by show _ ≤ _; rw [← HR.out]; exact hl
      obtain ⟨R, hR⟩ : ∃ R, colT n 2 false true = R := ⟨_, rfl⟩
      rw [hR] at HR ⊢
      obtain ⟨W, hW⟩ : ∃ W, w.alloc (.cells #[.string n, .int .i64 2, .bool false, .bool true] 115) = W := ⟨_, rfl⟩
      have G0 : Hid (WS b l W ∧ WK b w W ∧ Blk w.heap.size #[.string n, .int .i64 2, .bool false, .bool true] 115 W) := by rw [← hW]; exact ⟨hw.alloc _, (WK.refl _ _).alloc (Nat.le_of_lt hw.wr.lt) _, Blk.new _ _ _⟩
      have HNE : Hid (w.heap.size ≠ b) := by have := hw.wr.lt; show _ ≠ _; omega

      clear hl hR hw
      have q0W : W.cell? ⟨w.heap.size, 0, none⟩ = some (.string n) := by rw [G0.out.2.2.cell 0]; rfl
      have q1W : W.cell? ⟨w.heap.size, 1, none⟩ = some (.int .i64 2) := by rw [G0.out.2.2.cell 1]; rfl
      have q2W : W.cell? ⟨w.heap.size, 2, none⟩ = some (.bool false) := by rw [G0.out.2.2.cell 2]; rfl
      have q3W : W.cell? ⟨w.heap.size, 3, none⟩ = some (.bool true) := by rw [G0.out.2.2.cell 3]; rfl
      go_enter Tryz.func56, Tryz.ntmps56
      go_wp2_with fail
      refine (put1 b _ n W G0.out.1 (by have h9 := HL.out; simp at h9 ⊢; omega)).mono ?_
      rintro _ v3 ⟨rfl, h2, h3⟩
      have G3 : Hid (WS b (l ++ n.data.toList) v3 ∧ WK b w v3 ∧ Blk w.heap.size #[.string n, .int .i64 2, .bool false, .bool true] 115 v3) := ⟨h2, G0.out.2.1.trans h3, h3.blk G0.out.2.2 HNE.out (by decide)⟩
      clear h2 h3
      have q0v3 : v3.cell? ⟨w.heap.size, 0, none⟩ = some (.string n) := by rw [G3.out.2.2.cell 0]; rfl
      have q1v3 : v3.cell? ⟨w.heap.size, 1, none⟩ = some (.int .i64 2) := by rw [G3.out.2.2.cell 1]; rfl
      have q2v3 : v3.cell? ⟨w.heap.size, 2, none⟩ = some (.bool false) := by rw [G3.out.2.2.cell 2]; rfl
      have q3v3 : v3.cell? ⟨w.heap.size, 3, none⟩ = some (.bool true) := by rw [G3.out.2.2.cell 3]; rfl
      go_wp2_with fail
      refine (put1 b _ ⟨#[32, 116, 101, 120, 116]⟩ v3 G3.out.1 (by have h9 := HL.out; simp at h9 ⊢; omega)).mono ?_
      rintro _ v4 ⟨rfl, h2, h3⟩
      have G4 : Hid (WS b (l ++ n.data.toList ++ [32, 116, 101, 120, 116]) v4 ∧ WK b w v4 ∧ Blk w.heap.size #[.string n, .int .i64 2, .bool false, .bool true] 115 v4) := ⟨h2, G3.out.2.1.trans h3, h3.blk G3.out.2.2 HNE.out (by decide)⟩
      clear h2 h3
      have q0v4 : v4.cell? ⟨w.heap.size, 0, none⟩ = some (.string n) := by rw [G4.out.2.2.cell 0]; rfl
      have q1v4 : v4.cell? ⟨w.heap.size, 1, none⟩ = some (.int .i64 2) := by rw [G4.out.2.2.cell 1]; rfl
      have q2v4 : v4.cell? ⟨w.heap.size, 2, none⟩ = some (.bool false) := by rw [G4.out.2.2.cell 2]; rfl
      have q3v4 : v4.cell? ⟨w.heap.size, 3, none⟩ = some (.bool true) := by rw [G4.out.2.2.cell 3]; rfl
      go_wp2_with fail
      refine (put1 b _ ⟨#[32, 119, 111, 114, 100, 115]⟩ v4 G4.out.1 (by have h9 := HL.out; simp at h9 ⊢; omega)).mono ?_
      rintro _ v5 ⟨rfl, h2, h3⟩
      have G5 : Hid (WS b (l ++ n.data.toList ++ [32, 116, 101, 120, 116] ++ [32, 119, 111, 114, 100, 115]) v5 ∧ WK b w v5 ∧ Blk w.heap.size #[.string n, .int .i64 2, .bool false, .bool true] 115 v5) := ⟨h2, G4.out.2.1.trans h3, h3.blk G4.out.2.2 HNE.out (by decide)⟩
      clear h2 h3
      have q0v5 : v5.cell? ⟨w.heap.size, 0, none⟩ = some (.string n) := by rw [G5.out.2.2.cell 0]; rfl
      have q1v5 : v5.cell? ⟨w.heap.size, 1, none⟩ = some (.int .i64 2) := by rw [G5.out.2.2.cell 1]; rfl
      have q2v5 : v5.cell? ⟨w.heap.size, 2, none⟩ = some (.bool false) := by rw [G5.out.2.2.cell 2]; rfl
      have q3v5 : v5.cell? ⟨w.heap.size, 3, none⟩ = some (.bool true) := by rw [G5.out.2.2.cell 3]; rfl
      have HQ : Hid (WS b (l ++ R) v5 ∧ WK b w v5) := ⟨by rw [HR.out]; simpa [List.append_assoc] using G5.out.1, G5.out.2.1⟩
      go_wp2
      go_end0
      exact ⟨rfl, HQ.out.1, HQ.out.2⟩
    · have HR : Hid (colT n 2 true false = n.data.toList ++ [32, 116, 101, 120, 116] ++ [32, 110, 111, 116, 32, 110, 117, 108, 108]) := by show _ = _; simp [colT]
      have HL : Hid (l.length + (n.data.toList ++ [32, 116, 101, 120, 116] ++ [32, 110, 111, 116, 32, 110, 117, 108, 108]).length ≤ 1000000) := by show _ ≤ _; rw [← HR.out]; exact hl
      obtain ⟨R, hR⟩ : ∃ R, colT n 2 true false = R := ⟨_, rfl⟩
      rw [hR] at HR ⊢
      obtain ⟨W, hW⟩ : ∃ W, w.alloc (.cells #[.string n, .int .i64 2, .bool true, .bool false] 115) = W := ⟨_, rfl⟩
      have G0 : Hid (WS b l W ∧ WK b w W ∧ Blk w.heap.size #[.string n, .int .i64 2, .bool true, .bool false] 115 W) := by rw [← hW]; exact ⟨hw.alloc _, (WK.refl _ _).alloc (Nat.le_of_lt hw.wr.lt) _, Blk.new _ _ _⟩
      have HNE : Hid (w.heap.size ≠ b) := by have := hw.wr.lt; show _ ≠ _; omega

      clear hl hR hw
      have q0W : W.cell? ⟨w.heap.size, 0, none⟩ = some (.string n) := by rw [G0.out.2.2.cell 0]; rfl
      have q1W : W.cell? ⟨w.heap.size, 1, none⟩ = some (.int .i64 2) := by rw [G0.out.2.2.cell 1]; rfl
      have q2W : W.cell? ⟨w.heap.size, 2, none⟩ = some (.bool true) := by rw [G0.out.2.2.cell 2]; rfl
      have q3W : W.cell? ⟨w.heap.size, 3, none⟩ = some (.bool false) := by rw [G0.out.2.2.cell 3]; rfl
      go_enter Tryz.func56, Tryz.ntmps56
      go_wp2_with fail
      refine (put1 b _ n W G0.out.1 (by have h9 := HL.out; simp at h9 ⊢; omega)).mono ?_
      rintro _ v6 ⟨rfl, h2, h3⟩
      have G6 : Hid (WS b (l ++ n.data.toList) v6 ∧ WK b w v6 ∧ Blk w.heap.size #[.string n, .int .i64 2, .bool true, .bool false] 115 v6) := ⟨h2, G0.out.2.1.trans h3, h3.blk G0.out.2.2 HNE.out (by decide)⟩
      clear h2 h3
      have q0v6 : v6.cell? ⟨w.heap.size, 0, none⟩ = some (.string n) := by rw [G6.out.2.2.cell 0]; rfl
      have q1v6 : v6.cell? ⟨w.heap.size, 1, none⟩ = some (.int .i64 2) := by rw [G6.out.2.2.cell 1]; rfl
      have q2v6 : v6.cell? ⟨w.heap.size, 2, none⟩ = some (.bool true) := by rw [G6.out.2.2.cell 2]; rfl
      have q3v6 : v6.cell? ⟨w.heap.size, 3, none⟩ = some (.bool false) := by rw [G6.out.2.2.cell 3]; rfl
      go_wp2_with fail
      refine (put1 b _ ⟨#[32, 116, 101, 120, 116]⟩ v6 G6.out.1 (by have h9 := HL.out; simp at h9 ⊢; omega)).mono ?_
      rintro _ v7 ⟨rfl, h2, h3⟩
      have G7 : Hid (WS b (l ++ n.data.toList ++ [32, 116, 101, 120, 116]) v7 ∧ WK b w v7 ∧ Blk w.heap.size #[.string n, .int .i64 2, .bool true, .bool false] 115 v7) := ⟨h2, G6.out.2.1.trans h3, h3.blk G6.out.2.2 HNE.out (by decide)⟩
      clear h2 h3
      have q0v7 : v7.cell? ⟨w.heap.size, 0, none⟩ = some (.string n) := by rw [G7.out.2.2.cell 0]; rfl
      have q1v7 : v7.cell? ⟨w.heap.size, 1, none⟩ = some (.int .i64 2) := by rw [G7.out.2.2.cell 1]; rfl
      have q2v7 : v7.cell? ⟨w.heap.size, 2, none⟩ = some (.bool true) := by rw [G7.out.2.2.cell 2]; rfl
      have q3v7 : v7.cell? ⟨w.heap.size, 3, none⟩ = some (.bool false) := by rw [G7.out.2.2.cell 3]; rfl
      go_wp2_with fail
      refine (put1 b _ ⟨#[32, 110, 111, 116, 32, 110, 117, 108, 108]⟩ v7 G7.out.1 (by have h9 := HL.out; simp at h9 ⊢; omega)).mono ?_
      rintro _ v8 ⟨rfl, h2, h3⟩
      have G8 : Hid (WS b (l ++ n.data.toList ++ [32, 116, 101, 120, 116] ++ [32, 110, 111, 116, 32, 110, 117, 108, 108]) v8 ∧ WK b w v8 ∧ Blk w.heap.size #[.string n, .int .i64 2, .bool true, .bool false] 115 v8) := ⟨h2, G7.out.2.1.trans h3, h3.blk G7.out.2.2 HNE.out (by decide)⟩
      clear h2 h3
      have q0v8 : v8.cell? ⟨w.heap.size, 0, none⟩ = some (.string n) := by rw [G8.out.2.2.cell 0]; rfl
      have q1v8 : v8.cell? ⟨w.heap.size, 1, none⟩ = some (.int .i64 2) := by rw [G8.out.2.2.cell 1]; rfl
      have q2v8 : v8.cell? ⟨w.heap.size, 2, none⟩ = some (.bool true) := by rw [G8.out.2.2.cell 2]; rfl
      have q3v8 : v8.cell? ⟨w.heap.size, 3, none⟩ = some (.bool false) := by rw [G8.out.2.2.cell 3]; rfl
      have HQ : Hid (WS b (l ++ R) v8 ∧ WK b w v8) := ⟨by rw [HR.out]; simpa [List.append_assoc] using G8.out.1, G8.out.2.1⟩
      go_wp2
      go_end0
      exact ⟨rfl, HQ.out.1, HQ.out.2⟩
    · have HR : Hid (colT n 2 true true = n.data.toList ++ [32, 116, 101, 120, 116] ++ [32, 110, 111, 116, 32, 110, 117, 108, 108] ++ [32, 119, 111, 114, 100, 115]) := by show _ = _; simp [colT]
      have HL : Hid (l.length + (n.data.toList ++ [32, 116, 101, 120, 116] ++ [32, 110, 111, 116, 32, 110, 117, 108, 108] ++ [32, 119, 111, 114, 100, 115]).length ≤ 1000000) := by show _ ≤ _; rw [← HR.out]; exact hl
      obtain ⟨R, hR⟩ : ∃ R, colT n 2 true true = R := ⟨_, rfl⟩
      rw [hR] at HR ⊢
      obtain ⟨W, hW⟩ : ∃ W, w.alloc (.cells #[.string n, .int .i64 2, .bool true, .bool true] 115) = W := ⟨_, rfl⟩
      have G0 : Hid (WS b l W ∧ WK b w W ∧ Blk w.heap.size #[.string n, .int .i64 2, .bool true, .bool true] 115 W) := by rw [← hW]; exact ⟨hw.alloc _, (WK.refl _ _).alloc (Nat.le_of_lt hw.wr.lt) _, Blk.new _ _ _⟩
      have HNE : Hid (w.heap.size ≠ b) := by have := hw.wr.lt; show _ ≠ _; omega

      clear hl hR hw
      have q0W : W.cell? ⟨w.heap.size, 0, none⟩ = some (.string n) := by rw [G0.out.2.2.cell 0]; rfl
      have q1W : W.cell? ⟨w.heap.size, 1, none⟩ = some (.int .i64 2) := by rw [G0.out.2.2.cell 1]; rfl
      have q2W : W.cell? ⟨w.heap.size, 2, none⟩ = some (.bool true) := by rw [G0.out.2.2.cell 2]; rfl
      have q3W : W.cell? ⟨w.heap.size, 3, none⟩ = some (.bool true) := by rw [G0.out.2.2.cell 3]; rfl
      go_enter Tryz.func56, Tryz.ntmps56
      go_wp2_with fail
      refine (put1 b _ n W G0.out.1 (by have h9 := HL.out; simp at h9 ⊢; omega)).mono ?_
      rintro _ v9 ⟨rfl, h2, h3⟩
      have G9 : Hid (WS b (l ++ n.data.toList) v9 ∧ WK b w v9 ∧ Blk w.heap.size #[.string n, .int .i64 2, .bool true, .bool true] 115 v9) := ⟨h2, G0.out.2.1.trans h3, h3.blk G0.out.2.2 HNE.out (by decide)⟩
      clear h2 h3
      have q0v9 : v9.cell? ⟨w.heap.size, 0, none⟩ = some (.string n) := by rw [G9.out.2.2.cell 0]; rfl
      have q1v9 : v9.cell? ⟨w.heap.size, 1, none⟩ = some (.int .i64 2) := by rw [G9.out.2.2.cell 1]; rfl
      have q2v9 : v9.cell? ⟨w.heap.size, 2, none⟩ = some (.bool true) := by rw [G9.out.2.2.cell 2]; rfl
      have q3v9 : v9.cell? ⟨w.heap.size, 3, none⟩ = some (.bool true) := by rw [G9.out.2.2.cell 3]; rfl
      go_wp2_with fail
      refine (put1 b _ ⟨#[32, 116, 101, 120, 116]⟩ v9 G9.out.1 (by have h9 := HL.out; simp at h9 ⊢; omega)).mono ?_
      rintro _ v10 ⟨rfl, h2, h3⟩
      have G10 : Hid (WS b (l ++ n.data.toList ++ [32, 116, 101, 120, 116]) v10 ∧ WK b w v10 ∧ Blk w.heap.size #[.string n, .int .i64 2, .bool true, .bool true] 115 v10) := ⟨h2, G9.out.2.1.trans h3, h3.blk G9.out.2.2 HNE.out (by decide)⟩
      clear h2 h3
      have q0v10 : v10.cell? ⟨w.heap.size, 0, none⟩ = some (.string n) := by rw [G10.out.2.2.cell 0]; rfl
      have q1v10 : v10.cell? ⟨w.heap.size, 1, none⟩ = some (.int .i64 2) := by rw [G10.out.2.2.cell 1]; rfl
      have q2v10 : v10.cell? ⟨w.heap.size, 2, none⟩ = some (.bool true) := by rw [G10.out.2.2.cell 2]; rfl
      have q3v10 : v10.cell? ⟨w.heap.size, 3, none⟩ = some (.bool true) := by rw [G10.out.2.2.cell 3]; rfl
      go_wp2_with fail
      refine (put1 b _ ⟨#[32, 110, 111, 116, 32, 110, 117, 108, 108]⟩ v10 G10.out.1 (by have h9 := HL.out; simp at h9 ⊢; omega)).mono ?_
      rintro _ v11 ⟨rfl, h2, h3⟩
      have G11 : Hid (WS b (l ++ n.data.toList ++ [32, 116, 101, 120, 116] ++ [32, 110, 111, 116, 32, 110, 117, 108, 108]) v11 ∧ WK b w v11 ∧ Blk w.heap.size #[.string n, .int .i64 2, .bool true, .bool true] 115 v11) := ⟨h2, G10.out.2.1.trans h3, h3.blk G10.out.2.2 HNE.out (by decide)⟩
      clear h2 h3
      have q0v11 : v11.cell? ⟨w.heap.size, 0, none⟩ = some (.string n) := by rw [G11.out.2.2.cell 0]; rfl
      have q1v11 : v11.cell? ⟨w.heap.size, 1, none⟩ = some (.int .i64 2) := by rw [G11.out.2.2.cell 1]; rfl
      have q2v11 : v11.cell? ⟨w.heap.size, 2, none⟩ = some (.bool true) := by rw [G11.out.2.2.cell 2]; rfl
      have q3v11 : v11.cell? ⟨w.heap.size, 3, none⟩ = some (.bool true) := by rw [G11.out.2.2.cell 3]; rfl
      go_wp2_with fail
      refine (put1 b _ ⟨#[32, 119, 111, 114, 100, 115]⟩ v11 G11.out.1 (by have h9 := HL.out; simp at h9 ⊢; omega)).mono ?_
      rintro _ v12 ⟨rfl, h2, h3⟩
      have G12 : Hid (WS b (l ++ n.data.toList ++ [32, 116, 101, 120, 116] ++ [32, 110, 111, 116, 32, 110, 117, 108, 108] ++ [32, 119, 111, 114, 100, 115]) v12 ∧ WK b w v12 ∧ Blk w.heap.size #[.string n, .int .i64 2, .bool true, .bool true] 115 v12) := ⟨h2, G11.out.2.1.trans h3, h3.blk G11.out.2.2 HNE.out (by decide)⟩
      clear h2 h3
      have q0v12 : v12.cell? ⟨w.heap.size, 0, none⟩ = some (.string n) := by rw [G12.out.2.2.cell 0]; rfl
      have q1v12 : v12.cell? ⟨w.heap.size, 1, none⟩ = some (.int .i64 2) := by rw [G12.out.2.2.cell 1]; rfl
      have q2v12 : v12.cell? ⟨w.heap.size, 2, none⟩ = some (.bool true) := by rw [G12.out.2.2.cell 2]; rfl
      have q3v12 : v12.cell? ⟨w.heap.size, 3, none⟩ = some (.bool true) := by rw [G12.out.2.2.cell 3]; rfl
      have HQ : Hid (WS b (l ++ R) v12 ∧ WK b w v12) := ⟨by rw [HR.out]; simpa [List.append_assoc] using G12.out.1, G12.out.2.1⟩
      go_wp2
      go_end0
      exact ⟨rfl, HQ.out.1, HQ.out.2⟩
  · cases m <;> cases u
    · have HR : Hid (colT n k false false = n.data.toList ++ [32, 105, 110, 116]) := by show _ = _; simp [colT, hk]
      have HL : Hid (l.length + (n.data.toList ++ [32, 105, 110, 116]).length ≤ 1000000) := by show _ ≤ _; rw [← HR.out]; exact hl
      obtain ⟨R, hR⟩ : ∃ R, colT n k false false = R := ⟨_, rfl⟩
      rw [hR] at HR ⊢
      obtain ⟨W, hW⟩ : ∃ W, w.alloc (.cells #[.string n, .int .i64 k, .bool false, .bool false] 115) = W := ⟨_, rfl⟩
      have G0 : Hid (WS b l W ∧ WK b w W ∧ Blk w.heap.size #[.string n, .int .i64 k, .bool false, .bool false] 115 W) := by rw [← hW]; exact ⟨hw.alloc _, (WK.refl _ _).alloc (Nat.le_of_lt hw.wr.lt) _, Blk.new _ _ _⟩
      have HNE : Hid (w.heap.size ≠ b) := by have := hw.wr.lt; show _ ≠ _; omega
      have d2 := beq_f hk
      clear hl hR hw
      have q0W : W.cell? ⟨w.heap.size, 0, none⟩ = some (.string n) := by rw [G0.out.2.2.cell 0]; rfl
      have q1W : W.cell? ⟨w.heap.size, 1, none⟩ = some (.int .i64 k) := by rw [G0.out.2.2.cell 1]; rfl
      have q2W : W.cell? ⟨w.heap.size, 2, none⟩ = some (.bool false) := by rw [G0.out.2.2.cell 2]; rfl
      have q3W : W.cell? ⟨w.heap.size, 3, none⟩ = some (.bool false) := by rw [G0.out.2.2.cell 3]; rfl
      go_enter Tryz.func56, Tryz.ntmps56
      go_wp2_with fail
      refine (put1 b _ n W G0.out.1 (by have h9 := HL.out; simp at h9 ⊢; omega)).mono ?_
      rintro _ v13 ⟨rfl, h2, h3⟩
      have G13 : Hid (WS b (l ++ n.data.toList) v13 ∧ WK b w v13 ∧ Blk w.heap.size #[.string n, .int .i64 k, .bool false, .bool false] 115 v13) := ⟨h2, G0.out.2.1.trans h3, h3.blk G0.out.2.2 HNE.out (by decide)⟩
      clear h2 h3
      have q0v13 : v13.cell? ⟨w.heap.size, 0, none⟩ = some (.string n) := by rw [G13.out.2.2.cell 0]; rfl
      have q1v13 : v13.cell? ⟨w.heap.size, 1, none⟩ = some (.int .i64 k) := by rw [G13.out.2.2.cell 1]; rfl
      have q2v13 : v13.cell? ⟨w.heap.size, 2, none⟩ = some (.bool false) := by rw [G13.out.2.2.cell 2]; rfl
      have q3v13 : v13.cell? ⟨w.heap.size, 3, none⟩ = some (.bool false) := by rw [G13.out.2.2.cell 3]; rfl
      go_wp2_with fail
      refine (put1 b _ ⟨#[32, 105, 110, 116]⟩ v13 G13.out.1 (by have h9 := HL.out; simp at h9 ⊢; omega)).mono ?_
      rintro _ v14 ⟨rfl, h2, h3⟩
      have G14 : Hid (WS b (l ++ n.data.toList ++ [32, 105, 110, 116]) v14 ∧ WK b w v14 ∧ Blk w.heap.size #[.string n, .int .i64 k, .bool false, .bool false] 115 v14) := ⟨h2, G13.out.2.1.trans h3, h3.blk G13.out.2.2 HNE.out (by decide)⟩
      clear h2 h3
      have q0v14 : v14.cell? ⟨w.heap.size, 0, none⟩ = some (.string n) := by rw [G14.out.2.2.cell 0]; rfl
      have q1v14 : v14.cell? ⟨w.heap.size, 1, none⟩ = some (.int .i64 k) := by rw [G14.out.2.2.cell 1]; rfl
      have q2v14 : v14.cell? ⟨w.heap.size, 2, none⟩ = some (.bool false) := by rw [G14.out.2.2.cell 2]; rfl
      have q3v14 : v14.cell? ⟨w.heap.size, 3, none⟩ = some (.bool false) := by rw [G14.out.2.2.cell 3]; rfl
      have HQ : Hid (WS b (l ++ R) v14 ∧ WK b w v14) := ⟨by rw [HR.out]; simpa [List.append_assoc] using G14.out.1, G14.out.2.1⟩
      go_wp2
      go_end0
      exact ⟨rfl, HQ.out.1, HQ.out.2⟩
    · have HR : Hid (colT n k false true = n.data.toList ++ [32, 105, 110, 116] ++ [32, 119, 111, 114, 100, 115]) := by show _ = _; simp [colT, hk]
      have HL : Hid (l.length + (n.data.toList ++ [32, 105, 110, 116] ++ [32, 119, 111, 114, 100, 115]).length ≤ 1000000) := by show _ ≤ _; rw [← HR.out]; exact hl
      obtain ⟨R, hR⟩ : ∃ R, colT n k false true = R := ⟨_, rfl⟩
      rw [hR] at HR ⊢
      obtain ⟨W, hW⟩ : ∃ W, w.alloc (.cells #[.string n, .int .i64 k, .bool false, .bool true] 115) = W := ⟨_, rfl⟩
      have G0 : Hid (WS b l W ∧ WK b w W ∧ Blk w.heap.size #[.string n, .int .i64 k, .bool false, .bool true] 115 W) := by rw [← hW]; exact ⟨hw.alloc _, (WK.refl _ _).alloc (Nat.le_of_lt hw.wr.lt) _, Blk.new _ _ _⟩
      have HNE : Hid (w.heap.size ≠ b) := by have := hw.wr.lt; show _ ≠ _; omega
      have d2 := beq_f hk
      clear hl hR hw
      have q0W : W.cell? ⟨w.heap.size, 0, none⟩ = some (.string n) := by rw [G0.out.2.2.cell 0]; rfl
      have q1W : W.cell? ⟨w.heap.size, 1, none⟩ = some (.int .i64 k) := by rw [G0.out.2.2.cell 1]; rfl
      have q2W : W.cell? ⟨w.heap.size, 2, none⟩ = some (.bool false) := by rw [G0.out.2.2.cell 2]; rfl
      have q3W : W.cell? ⟨w.heap.size, 3, none⟩ = some (.bool true) := by rw [G0.out.2.2.cell 3]; rfl
      go_enter Tryz.func56, Tryz.ntmps56
      go_wp2_with fail
      refine (put1 b _ n W G0.out.1 (by have h9 := HL.out; simp at h9 ⊢; omega)).mono ?_
      rintro _ v15 ⟨rfl, h2, h3⟩
      have G15 : Hid (WS b (l ++ n.data.toList) v15 ∧ WK b w v15 ∧ Blk w.heap.size #[.string n, .int .i64 k, .bool false, .bool true] 115 v15) := ⟨h2, G0.out.2.1.trans h3, h3.blk G0.out.2.2 HNE.out (by decide)⟩
      clear h2 h3
      have q0v15 : v15.cell? ⟨w.heap.size, 0, none⟩ = some (.string n) := by rw [G15.out.2.2.cell 0]; rfl
      have q1v15 : v15.cell? ⟨w.heap.size, 1, none⟩ = some (.int .i64 k) := by rw [G15.out.2.2.cell 1]; rfl
      have q2v15 : v15.cell? ⟨w.heap.size, 2, none⟩ = some (.bool false) := by rw [G15.out.2.2.cell 2]; rfl
      have q3v15 : v15.cell? ⟨w.heap.size, 3, none⟩ = some (.bool true) := by rw [G15.out.2.2.cell 3]; rfl
      go_wp2_with fail
      refine (put1 b _ ⟨#[32, 105, 110, 116]⟩ v15 G15.out.1 (by have h9 := HL.out; simp at h9 ⊢; omega)).mono ?_
      rintro _ v16 ⟨rfl, h2, h3⟩
      have G16 : Hid (WS b (l ++ n.data.toList ++ [32, 105, 110, 116]) v16 ∧ WK b w v16 ∧ Blk w.heap.size #[.string n, .int .i64 k, .bool false, .bool true] 115 v16) := ⟨h2, G15.out.2.1.trans h3, h3.blk G15.out.2.2 HNE.out (by decide)⟩
      clear h2 h3
      have q0v16 : v16.cell? ⟨w.heap.size, 0, none⟩ = some (.string n) := by rw [G16.out.2.2.cell 0]; rfl
      have q1v16 : v16.cell? ⟨w.heap.size, 1, none⟩ = some (.int .i64 k) := by rw [G16.out.2.2.cell 1]; rfl
      have q2v16 : v16.cell? ⟨w.heap.size, 2, none⟩ = some (.bool false) := by rw [G16.out.2.2.cell 2]; rfl
      have q3v16 : v16.cell? ⟨w.heap.size, 3, none⟩ = some (.bool true) := by rw [G16.out.2.2.cell 3]; rfl
      go_wp2_with fail
      refine (put1 b _ ⟨#[32, 119, 111, 114, 100, 115]⟩ v16 G16.out.1 (by have h9 := HL.out; simp at h9 ⊢; omega)).mono ?_
      rintro _ v17 ⟨rfl, h2, h3⟩
      have G17 : Hid (WS b (l ++ n.data.toList ++ [32, 105, 110, 116] ++ [32, 119, 111, 114, 100, 115]) v17 ∧ WK b w v17 ∧ Blk w.heap.size #[.string n, .int .i64 k, .bool false, .bool true] 115 v17) := ⟨h2, G16.out.2.1.trans h3, h3.blk G16.out.2.2 HNE.out (by decide)⟩
      clear h2 h3
      have q0v17 : v17.cell? ⟨w.heap.size, 0, none⟩ = some (.string n) := by rw [G17.out.2.2.cell 0]; rfl
      have q1v17 : v17.cell? ⟨w.heap.size, 1, none⟩ = some (.int .i64 k) := by rw [G17.out.2.2.cell 1]; rfl
      have q2v17 : v17.cell? ⟨w.heap.size, 2, none⟩ = some (.bool false) := by rw [G17.out.2.2.cell 2]; rfl
      have q3v17 : v17.cell? ⟨w.heap.size, 3, none⟩ = some (.bool true) := by rw [G17.out.2.2.cell 3]; rfl
      have HQ : Hid (WS b (l ++ R) v17 ∧ WK b w v17) := ⟨by rw [HR.out]; simpa [List.append_assoc] using G17.out.1, G17.out.2.1⟩
      go_wp2
      go_end0
      exact ⟨rfl, HQ.out.1, HQ.out.2⟩
    · have HR : Hid (colT n k true false = n.data.toList ++ [32, 105, 110, 116] ++ [32, 110, 111, 116, 32, 110, 117, 108, 108]) := by show _ = _; simp [colT, hk]
      have HL : Hid (l.length + (n.data.toList ++ [32, 105, 110, 116] ++ [32, 110, 111, 116, 32, 110, 117, 108, 108]).length ≤ 1000000) := by show _ ≤ _; rw [← HR.out]; exact hl
      obtain ⟨R, hR⟩ : ∃ R, colT n k true false = R := ⟨_, rfl⟩
      rw [hR] at HR ⊢
      obtain ⟨W, hW⟩ : ∃ W, w.alloc (.cells #[.string n, .int .i64 k, .bool true, .bool false] 115) = W := ⟨_, rfl⟩
      have G0 : Hid (WS b l W ∧ WK b w W ∧ Blk w.heap.size #[.string n, .int .i64 k, .bool true, .bool false] 115 W) := by rw [← hW]; exact ⟨hw.alloc _, (WK.refl _ _).alloc (Nat.le_of_lt hw.wr.lt) _, Blk.new _ _ _⟩
      have HNE : Hid (w.heap.size ≠ b) := by have := hw.wr.lt; show _ ≠ _; omega
      have d2 := beq_f hk
      clear hl hR hw
      have q0W : W.cell? ⟨w.heap.size, 0, none⟩ = some (.string n) := by rw [G0.out.2.2.cell 0]; rfl
      have q1W : W.cell? ⟨w.heap.size, 1, none⟩ = some (.int .i64 k) := by rw [G0.out.2.2.cell 1]; rfl
      have q2W : W.cell? ⟨w.heap.size, 2, none⟩ = some (.bool true) := by rw [G0.out.2.2.cell 2]; rfl
      have q3W : W.cell? ⟨w.heap.size, 3, none⟩ = some (.bool false) := by rw [G0.out.2.2.cell 3]; rfl
      go_enter Tryz.func56, Tryz.ntmps56
      go_wp2_with fail
      refine (put1 b _ n W G0.out.1 (by have h9 := HL.out; simp at h9 ⊢; omega)).mono ?_
      rintro _ v18 ⟨rfl, h2, h3⟩
      have G18 : Hid (WS b (l ++ n.data.toList) v18 ∧ WK b w v18 ∧ Blk w.heap.size #[.string n, .int .i64 k, .bool true, .bool false] 115 v18) := ⟨h2, G0.out.2.1.trans h3, h3.blk G0.out.2.2 HNE.out (by decide)⟩
      clear h2 h3
      have q0v18 : v18.cell? ⟨w.heap.size, 0, none⟩ = some (.string n) := by rw [G18.out.2.2.cell 0]; rfl
      have q1v18 : v18.cell? ⟨w.heap.size, 1, none⟩ = some (.int .i64 k) := by rw [G18.out.2.2.cell 1]; rfl
      have q2v18 : v18.cell? ⟨w.heap.size, 2, none⟩ = some (.bool true) := by rw [G18.out.2.2.cell 2]; rfl
      have q3v18 : v18.cell? ⟨w.heap.size, 3, none⟩ = some (.bool false) := by rw [G18.out.2.2.cell 3]; rfl
      go_wp2_with fail
      refine (put1 b _ ⟨#[32, 105, 110, 116]⟩ v18 G18.out.1 (by have h9 := HL.out; simp at h9 ⊢; omega)).mono ?_
      rintro _ v19 ⟨rfl, h2, h3⟩
      have G19 : Hid (WS b (l ++ n.data.toList ++ [32, 105, 110, 116]) v19 ∧ WK b w v19 ∧ Blk w.heap.size #[.string n, .int .i64 k, .bool true, .bool false] 115 v19) := ⟨h2, G18.out.2.1.trans h3, h3.blk G18.out.2.2 HNE.out (by decide)⟩
      clear h2 h3
      have q0v19 : v19.cell? ⟨w.heap.size, 0, none⟩ = some (.string n) := by rw [G19.out.2.2.cell 0]; rfl
      have q1v19 : v19.cell? ⟨w.heap.size, 1, none⟩ = some (.int .i64 k) := by rw [G19.out.2.2.cell 1]; rfl
      have q2v19 : v19.cell? ⟨w.heap.size, 2, none⟩ = some (.bool true) := by rw [G19.out.2.2.cell 2]; rfl
      have q3v19 : v19.cell? ⟨w.heap.size, 3, none⟩ = some (.bool false) := by rw [G19.out.2.2.cell 3]; rfl
      go_wp2_with fail
      refine (put1 b _ ⟨#[32, 110, 111, 116, 32, 110, 117, 108, 108]⟩ v19 G19.out.1 (by have h9 := HL.out; simp at h9 ⊢; omega)).mono ?_
      rintro _ v20 ⟨rfl, h2, h3⟩
      have G20 : Hid (WS b (l ++ n.data.toList ++ [32, 105, 110, 116] ++ [32, 110, 111, 116, 32, 110, 117, 108, 108]) v20 ∧ WK b w v20 ∧ Blk w.heap.size #[.string n, .int .i64 k, .bool true, .bool false] 115 v20) := ⟨h2, G19.out.2.1.trans h3, h3.blk G19.out.2.2 HNE.out (by decide)⟩
      clear h2 h3
      have q0v20 : v20.cell? ⟨w.heap.size, 0, none⟩ = some (.string n) := by rw [G20.out.2.2.cell 0]; rfl
      have q1v20 : v20.cell? ⟨w.heap.size, 1, none⟩ = some (.int .i64 k) := by rw [G20.out.2.2.cell 1]; rfl
      have q2v20 : v20.cell? ⟨w.heap.size, 2, none⟩ = some (.bool true) := by rw [G20.out.2.2.cell 2]; rfl
      have q3v20 : v20.cell? ⟨w.heap.size, 3, none⟩ = some (.bool false) := by rw [G20.out.2.2.cell 3]; rfl
      have HQ : Hid (WS b (l ++ R) v20 ∧ WK b w v20) := ⟨by rw [HR.out]; simpa [List.append_assoc] using G20.out.1, G20.out.2.1⟩
      go_wp2
      go_end0
      exact ⟨rfl, HQ.out.1, HQ.out.2⟩
    · have HR : Hid (colT n k true true = n.data.toList ++ [32, 105, 110, 116] ++ [32, 110, 111, 116, 32, 110, 117, 108, 108] ++ [32, 119, 111, 114, 100, 115]) := by show _ = _; simp [colT, hk]
      have HL : Hid (l.length + (n.data.toList ++ [32, 105, 110, 116] ++ [32, 110, 111, 116, 32, 110, 117, 108, 108] ++ [32, 119, 111, 114, 100, 115]).length ≤ 1000000) := by show _ ≤ _; rw [← HR.out]; exact hl
      obtain ⟨R, hR⟩ : ∃ R, colT n k true true = R := ⟨_, rfl⟩
      rw [hR] at HR ⊢
      obtain ⟨W, hW⟩ : ∃ W, w.alloc (.cells #[.string n, .int .i64 k, .bool true, .bool true] 115) = W := ⟨_, rfl⟩
      have G0 : Hid (WS b l W ∧ WK b w W ∧ Blk w.heap.size #[.string n, .int .i64 k, .bool true, .bool true] 115 W) := by rw [← hW]; exact ⟨hw.alloc _, (WK.refl _ _).alloc (Nat.le_of_lt hw.wr.lt) _, Blk.new _ _ _⟩
      have HNE : Hid (w.heap.size ≠ b) := by have := hw.wr.lt; show _ ≠ _; omega
      have d2 := beq_f hk
      clear hl hR hw
      have q0W : W.cell? ⟨w.heap.size, 0, none⟩ = some (.string n) := by rw [G0.out.2.2.cell 0]; rfl
      have q1W : W.cell? ⟨w.heap.size, 1, none⟩ = some (.int .i64 k) := by rw [G0.out.2.2.cell 1]; rfl
      have q2W : W.cell? ⟨w.heap.size, 2, none⟩ = some (.bool true) := by rw [G0.out.2.2.cell 2]; rfl
      have q3W : W.cell? ⟨w.heap.size, 3, none⟩ = some (.bool true) := by rw [G0.out.2.2.cell 3]; rfl
      go_enter Tryz.func56, Tryz.ntmps56
      go_wp2_with fail
      refine (put1 b _ n W G0.out.1 (by have h9 := HL.out; simp at h9 ⊢; omega)).mono ?_
      rintro _ v21 ⟨rfl, h2, h3⟩
      have G21 : Hid (WS b (l ++ n.data.toList) v21 ∧ WK b w v21 ∧ Blk w.heap.size #[.string n, .int .i64 k, .bool true, .bool true] 115 v21) := ⟨h2, G0.out.2.1.trans h3, h3.blk G0.out.2.2 HNE.out (by decide)⟩
      clear h2 h3
      have q0v21 : v21.cell? ⟨w.heap.size, 0, none⟩ = some (.string n) := by rw [G21.out.2.2.cell 0]; rfl
      have q1v21 : v21.cell? ⟨w.heap.size, 1, none⟩ = some (.int .i64 k) := by rw [G21.out.2.2.cell 1]; rfl
      have q2v21 : v21.cell? ⟨w.heap.size, 2, none⟩ = some (.bool true) := by rw [G21.out.2.2.cell 2]; rfl
      have q3v21 : v21.cell? ⟨w.heap.size, 3, none⟩ = some (.bool true) := by rw [G21.out.2.2.cell 3]; rfl
      go_wp2_with fail
      refine (put1 b _ ⟨#[32, 105, 110, 116]⟩ v21 G21.out.1 (by have h9 := HL.out; simp at h9 ⊢; omega)).mono ?_
      rintro _ v22 ⟨rfl, h2, h3⟩
      have G22 : Hid (WS b (l ++ n.data.toList ++ [32, 105, 110, 116]) v22 ∧ WK b w v22 ∧ Blk w.heap.size #[.string n, .int .i64 k, .bool true, .bool true] 115 v22) := ⟨h2, G21.out.2.1.trans h3, h3.blk G21.out.2.2 HNE.out (by decide)⟩
      clear h2 h3
      have q0v22 : v22.cell? ⟨w.heap.size, 0, none⟩ = some (.string n) := by rw [G22.out.2.2.cell 0]; rfl
      have q1v22 : v22.cell? ⟨w.heap.size, 1, none⟩ = some (.int .i64 k) := by rw [G22.out.2.2.cell 1]; rfl
      have q2v22 : v22.cell? ⟨w.heap.size, 2, none⟩ = some (.bool true) := by rw [G22.out.2.2.cell 2]; rfl
      have q3v22 : v22.cell? ⟨w.heap.size, 3, none⟩ = some (.bool true) := by rw [G22.out.2.2.cell 3]; rfl
      go_wp2_with fail
      refine (put1 b _ ⟨#[32, 110, 111, 116, 32, 110, 117, 108, 108]⟩ v22 G22.out.1 (by have h9 := HL.out; simp at h9 ⊢; omega)).mono ?_
      rintro _ v23 ⟨rfl, h2, h3⟩
      have G23 : Hid (WS b (l ++ n.data.toList ++ [32, 105, 110, 116] ++ [32, 110, 111, 116, 32, 110, 117, 108, 108]) v23 ∧ WK b w v23 ∧ Blk w.heap.size #[.string n, .int .i64 k, .bool true, .bool true] 115 v23) := ⟨h2, G22.out.2.1.trans h3, h3.blk G22.out.2.2 HNE.out (by decide)⟩
      clear h2 h3
      have q0v23 : v23.cell? ⟨w.heap.size, 0, none⟩ = some (.string n) := by rw [G23.out.2.2.cell 0]; rfl
      have q1v23 : v23.cell? ⟨w.heap.size, 1, none⟩ = some (.int .i64 k) := by rw [G23.out.2.2.cell 1]; rfl
      have q2v23 : v23.cell? ⟨w.heap.size, 2, none⟩ = some (.bool true) := by rw [G23.out.2.2.cell 2]; rfl
      have q3v23 : v23.cell? ⟨w.heap.size, 3, none⟩ = some (.bool true) := by rw [G23.out.2.2.cell 3]; rfl
      go_wp2_with fail
      refine (put1 b _ ⟨#[32, 119, 111, 114, 100, 115]⟩ v23 G23.out.1 (by have h9 := HL.out; simp at h9 ⊢; omega)).mono ?_
      rintro _ v24 ⟨rfl, h2, h3⟩
      have G24 : Hid (WS b (l ++ n.data.toList ++ [32, 105, 110, 116] ++ [32, 110, 111, 116, 32, 110, 117, 108, 108] ++ [32, 119, 111, 114, 100, 115]) v24 ∧ WK b w v24 ∧ Blk w.heap.size #[.string n, .int .i64 k, .bool true, .bool true] 115 v24) := ⟨h2, G23.out.2.1.trans h3, h3.blk G23.out.2.2 HNE.out (by decide)⟩
      clear h2 h3
      have q0v24 : v24.cell? ⟨w.heap.size, 0, none⟩ = some (.string n) := by rw [G24.out.2.2.cell 0]; rfl
      have q1v24 : v24.cell? ⟨w.heap.size, 1, none⟩ = some (.int .i64 k) := by rw [G24.out.2.2.cell 1]; rfl
      have q2v24 : v24.cell? ⟨w.heap.size, 2, none⟩ = some (.bool true) := by rw [G24.out.2.2.cell 2]; rfl
      have q3v24 : v24.cell? ⟨w.heap.size, 3, none⟩ = some (.bool true) := by rw [G24.out.2.2.cell 3]; rfl
      have HQ : Hid (WS b (l ++ R) v24 ∧ WK b w v24) := ⟨by rw [HR.out]; simpa [List.append_assoc] using G24.out.1, G24.out.2.1⟩
      go_wp2
      go_end0
      exact ⟨rfl, HQ.out.1, HQ.out.2⟩
end Go.Proofs.YtbdcbaamjkjhaaaGreatDoor
