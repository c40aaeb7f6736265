/- Part 12 of 35. -/
import Derived.Test.YtbdcbaamjkjhaaaGreatDoorH11
namespace Go.Proofs.YtbdcbaamjkjhaaaGreatDoor
open Go.RowKit

def orT (s : List UInt8) (e : Ex) : List UInt8 := match e with
  | .nil => s
  | .node _ _ _ _ _ => prN 1 e
theorem orT_nil (s : List UInt8) : orT s .nil = s := rfl
theorem orT_node (s : List UInt8) (c : Int) (v : Vl) (nm : ByteArray) (x y : Ex) : orT s (.node c v nm x y) = prN 1 (.node c v nm x y) := rfl
def rankT (e : Ex) (d : Bool) : List UInt8 := orT [114, 97, 110, 107] e ++ (if d then [32, 100, 101, 115, 99] else [])
def itemH (o : Int) : List UInt8 := if o = 1 then [99, 111, 117, 110, 116, 40] else if o = 2 then [115, 117, 109, 40] else if o = 3 then [109, 105, 110, 40] else [109, 97, 120, 40]
def itemT (o : Int) (e : Ex) : List UInt8 := if 1 ≤ o ∧ o ≤ 4 then itemH o ++ orT [42] e ++ [41] else prN 1 e
set_option maxRecDepth 100000 in
set_option maxHeartbeats 4000000 in
theorem wrank_any (e : Ex) (he : TreeOk e) (d : Bool) (b : Nat) (p : Option Addr) (l : List UInt8) (w : World) (hw : WS b l w) (ht : TrAt b w p e) (hl : l.length + (rankT e d).length ≤ 1000000) :
    Calls Tryz.prog 104 #[.pointer (some ⟨b, 0, none⟩), .agg #[.pointer p, .bool d]] w fun r w' => Puts b l (rankT e d) w r w' := by
  have HE : Hid (ESp e) := (wexpr_all e he).1
  clear he
  cases e with
  | nil =>
    obtain rfl := ht.nil
    cases d
    · have HR : Hid (rankT .nil false = [114, 97, 110, 107] ++ prN 1 .nil) := by show _ = _; rfl
      have HL : Hid (l.length + ([114, 97, 110, 107] ++ prN 1 .nil).length ≤ 1000000) := by show _ ≤ _; rw [← HR.out]; exact hl
      obtain ⟨R, hR⟩ : ∃ R, rankT .nil false = R := ⟨_, rfl⟩
      rw [hR] at HR ⊢
      obtain ⟨W, hW⟩ : ∃ W, w.alloc (.cells #[.pointer none, .bool false] 151) = W := ⟨_, rfl⟩
      have G0 : Hid (WS b l W ∧ WK b w W ∧ Blk w.heap.size #[.pointer none, .bool false] 151 W ∧ TrAt b W none .nil) := by rw [← hW]; exact ⟨hw.alloc _, (WK.refl _ _).alloc (Nat.le_of_lt hw.wr.lt) _, Blk.new _ _ _, ht.keep ((Below.refl _ _).alloc (Nat.le_of_lt hw.wr.lt) _)⟩
      have HNE : Hid (w.heap.size ≠ b) := by have := hw.wr.lt; show _ ≠ _; omega
      clear hl hR hw ht
      have q0W : W.cell? ⟨w.heap.size, 0, none⟩ = some (.pointer none) := by rw [G0.out.2.2.1.cell 0]; rfl
      have q1W : W.cell? ⟨w.heap.size, 1, none⟩ = some (.bool false) := by rw [G0.out.2.2.1.cell 1]; rfl
      go_enter Tryz.func104, Tryz.ntmps104
      go_wp2_with fail
      refine (put1 b _ ⟨#[114, 97, 110, 107]⟩ W G0.out.1 (by have h9 := HL.out; (try simp at h9 ⊢); omega)).mono ?_
      rintro _ v1 ⟨rfl, h2, h3⟩
      have G1 : Hid (WS b (l ++ [114, 97, 110, 107]) v1 ∧ WK b w v1 ∧ Blk w.heap.size #[.pointer none, .bool false] 151 v1 ∧ TrAt b v1 none .nil) := ⟨h2, G0.out.2.1.trans h3, h3.blk G0.out.2.2.1 HNE.out (by decide), G0.out.2.2.2.keep h3.below⟩
      clear h2 h3
      have q0v1 : v1.cell? ⟨w.heap.size, 0, none⟩ = some (.pointer none) := by rw [G1.out.2.2.1.cell 0]; rfl
      have q1v1 : v1.cell? ⟨w.heap.size, 1, none⟩ = some (.bool false) := by rw [G1.out.2.2.1.cell 1]; rfl
      go_wp2_with fail
      refine (HE.out b _ 1 _ v1 G1.out.1 G1.out.2.2.2 (by have h9 := HL.out; (try simp at h9 ⊢); omega)).mono ?_
      rintro _ v2 ⟨rfl, h2, h3⟩
      have G2 : Hid (WS b (l ++ [114, 97, 110, 107] ++ prN 1 .nil) v2 ∧ WK b w v2 ∧ Blk w.heap.size #[.pointer none, .bool false] 151 v2 ∧ TrAt b v2 none .nil) := ⟨h2, G1.out.2.1.trans h3, h3.blk G1.out.2.2.1 HNE.out (by decide), G1.out.2.2.2.keep h3.below⟩
      clear h2 h3
      have q0v2 : v2.cell? ⟨w.heap.size, 0, none⟩ = some (.pointer none) := by rw [G2.out.2.2.1.cell 0]; rfl
      have q1v2 : v2.cell? ⟨w.heap.size, 1, none⟩ = some (.bool false) := by rw [G2.out.2.2.1.cell 1]; rfl
      have HQ : Hid (WS b (l ++ R) v2 ∧ WK b w v2) := ⟨by rw [HR.out]; simpa [List.append_assoc] using G2.out.1, G2.out.2.1⟩
      go_wp2
      go_end0
      exact ⟨rfl, HQ.out.1, HQ.out.2⟩
    · have HR : Hid (rankT .nil true = [114, 97, 110, 107] ++ prN 1 .nil ++ [32, 100, 101, 115, 99]) := by show _ = _; rfl
      have HL : Hid (l.length + ([114, 97, 110, 107] ++ prN 1 .nil ++ [32, 100, 101, 115, 99]).length ≤ 1000000) := by show _ ≤ _; rw [← HR.out]; exact hl
      obtain ⟨R, hR⟩ : ∃ R, rankT .nil true = R := ⟨_, rfl⟩
      rw [hR] at HR ⊢
      obtain ⟨W, hW⟩ : ∃ W, w.alloc (.cells #[.pointer none, .bool true] 151) = W := ⟨_, rfl⟩
      have G0 : Hid (WS b l W ∧ WK b w W ∧ Blk w.heap.size #[.pointer none, .bool true] 151 W ∧ TrAt b W none .nil) := by rw [← hW]; exact ⟨hw.alloc _, (WK.refl _ _).alloc (Nat.le_of_lt hw.wr.lt) _, Blk.new _ _ _, ht.keep ((Below.refl _ _).alloc (Nat.le_of_lt hw.wr.lt) _)⟩
      have HNE : Hid (w.heap.size ≠ b) := by have := hw.wr.lt; show _ ≠ _; omega
      clear hl hR hw ht
      have q0W : W.cell? ⟨w.heap.size, 0, none⟩ = some (.pointer none) := by rw [G0.out.2.2.1.cell 0]; rfl
      have q1W : W.cell? ⟨w.heap.size, 1, none⟩ = some (.bool true) := by rw [G0.out.2.2.1.cell 1]; rfl
      go_enter Tryz.func104, Tryz.ntmps104
      go_wp2_with fail
      refine (put1 b _ ⟨#[114, 97, 110, 107]⟩ W G0.out.1 (by have h9 := HL.out; (try simp at h9 ⊢); omega)).mono ?_
      rintro _ v3 ⟨rfl, h2, h3⟩
      have G3 : Hid (WS b (l ++ [114, 97, 110, 107]) v3 ∧ WK b w v3 ∧ Blk w.heap.size #[.pointer none, .bool true] 151 v3 ∧ TrAt b v3 none .nil) := ⟨h2, G0.out.2.1.trans h3, h3.blk G0.out.2.2.1 HNE.out (by decide), G0.out.2.2.2.keep h3.below⟩
      clear h2 h3
      have q0v3 : v3.cell? ⟨w.heap.size, 0, none⟩ = some (.pointer none) := by rw [G3.out.2.2.1.cell 0]; rfl
      have q1v3 : v3.cell? ⟨w.heap.size, 1, none⟩ = some (.bool true) := by rw [G3.out.2.2.1.cell 1]; rfl
      go_wp2_with fail
      refine (HE.out b _ 1 _ v3 G3.out.1 G3.out.2.2.2 (by have h9 := HL.out; (try simp at h9 ⊢); omega)).mono ?_
      rintro _ v4 ⟨rfl, h2, h3⟩
      have G4 : Hid (WS b (l ++ [114, 97, 110, 107] ++ prN 1 .nil) v4 ∧ WK b w v4 ∧ Blk w.heap.size #[.pointer none, .bool true] 151 v4 ∧ TrAt b v4 none .nil) := ⟨h2, G3.out.2.1.trans h3, h3.blk G3.out.2.2.1 HNE.out (by decide), G3.out.2.2.2.keep h3.below⟩
      clear h2 h3
      have q0v4 : v4.cell? ⟨w.heap.size, 0, none⟩ = some (.pointer none) := by rw [G4.out.2.2.1.cell 0]; rfl
      have q1v4 : v4.cell? ⟨w.heap.size, 1, none⟩ = some (.bool true) := by rw [G4.out.2.2.1.cell 1]; rfl
      go_wp2_with fail
      refine (put1 b _ ⟨#[32, 100, 101, 115, 99]⟩ v4 G4.out.1 (by have h9 := HL.out; (try simp at h9 ⊢); omega)).mono ?_
      rintro _ v5 ⟨rfl, h2, h3⟩
      have G5 : Hid (WS b (l ++ [114, 97, 110, 107] ++ prN 1 .nil ++ [32, 100, 101, 115, 99]) v5 ∧ WK b w v5 ∧ Blk w.heap.size #[.pointer none, .bool true] 151 v5 ∧ TrAt b v5 none .nil) := ⟨h2, G4.out.2.1.trans h3, h3.blk G4.out.2.2.1 HNE.out (by decide), G4.out.2.2.2.keep h3.below⟩
      clear h2 h3
      have q0v5 : v5.cell? ⟨w.heap.size, 0, none⟩ = some (.pointer none) := by rw [G5.out.2.2.1.cell 0]; rfl
      have q1v5 : v5.cell? ⟨w.heap.size, 1, none⟩ = some (.bool true) := by rw [G5.out.2.2.1.cell 1]; rfl
      have HQ : Hid (WS b (l ++ R) v5 ∧ WK b w v5) := ⟨by rw [HR.out]; simpa [List.append_assoc] using G5.out.1, G5.out.2.1⟩
      go_wp2
      go_end0
      exact ⟨rfl, HQ.out.1, HQ.out.2⟩
  | node c v nm x y =>
    obtain ⟨B, pl, pr, rfl, _, _, _⟩ := ht.node
    cases d
    · have HR : Hid (rankT (.node c v nm x y) false = prN 1 (.node c v nm x y)) := by show _ = _; rw [rankT, orT_node]; simp
      have HL : Hid (l.length + (prN 1 (.node c v nm x y)).length ≤ 1000000) := by show _ ≤ _; rw [← HR.out]; exact hl
      obtain ⟨R, hR⟩ : ∃ R, rankT (.node c v nm x y) false = R := ⟨_, rfl⟩
      rw [hR] at HR ⊢
      obtain ⟨W, hW⟩ : ∃ W, w.alloc (.cells #[.pointer (some ⟨B, 0, none⟩), .bool false] 151) = W := ⟨_, rfl⟩
      have G0 : Hid (WS b l W ∧ WK b w W ∧ Blk w.heap.size #[.pointer (some ⟨B, 0, none⟩), .bool false] 151 W ∧ TrAt b W (some ⟨B, 0, none⟩) (.node c v nm x y)) := by rw [← hW]; exact ⟨hw.alloc _, (WK.refl _ _).alloc (Nat.le_of_lt hw.wr.lt) _, Blk.new _ _ _, ht.keep ((Below.refl _ _).alloc (Nat.le_of_lt hw.wr.lt) _)⟩
      have HNE : Hid (w.heap.size ≠ b) := by have := hw.wr.lt; show _ ≠ _; omega
      clear hl hR hw ht
      have q0W : W.cell? ⟨w.heap.size, 0, none⟩ = some (.pointer (some ⟨B, 0, none⟩)) := by rw [G0.out.2.2.1.cell 0]; rfl
      have q1W : W.cell? ⟨w.heap.size, 1, none⟩ = some (.bool false) := by rw [G0.out.2.2.1.cell 1]; rfl
      go_enter Tryz.func104, Tryz.ntmps104
      go_wp2_with fail
      refine (HE.out b _ 1 _ W G0.out.1 G0.out.2.2.2 (by have h9 := HL.out; (try simp at h9 ⊢); omega)).mono ?_
      rintro _ v6 ⟨rfl, h2, h3⟩
      have G6 : Hid (WS b (l ++ prN 1 (.node c v nm x y)) v6 ∧ WK b w v6 ∧ Blk w.heap.size #[.pointer (some ⟨B, 0, none⟩), .bool false] 151 v6 ∧ TrAt b v6 (some ⟨B, 0, none⟩) (.node c v nm x y)) := ⟨h2, G0.out.2.1.trans h3, h3.blk G0.out.2.2.1 HNE.out (by decide), G0.out.2.2.2.keep h3.below⟩
      clear h2 h3
      have q0v6 : v6.cell? ⟨w.heap.size, 0, none⟩ = some (.pointer (some ⟨B, 0, none⟩)) := by rw [G6.out.2.2.1.cell 0]; rfl
      have q1v6 : v6.cell? ⟨w.heap.size, 1, none⟩ = some (.bool false) := by rw [G6.out.2.2.1.cell 1]; rfl
      have HQ : Hid (WS b (l ++ R) v6 ∧ WK b w v6) := ⟨by rw [HR.out]; simpa [List.append_assoc] using G6.out.1, G6.out.2.1⟩
      go_wp2
      go_end0
      exact ⟨rfl, HQ.out.1, HQ.out.2⟩
    · have HR : Hid (rankT (.node c v nm x y) true = prN 1 (.node c v nm x y) ++ [32, 100, 101, 115, 99]) := by show _ = _; rw [rankT, orT_node]; rfl
      have HL : Hid (l.length + (prN 1 (.node c v nm x y) ++ [32, 100, 101, 115, 99]).length ≤ 1000000) := by show _ ≤ _; rw [← HR.out]; exact hl
      obtain ⟨R, hR⟩ : ∃ R, rankT (.node c v nm x y) true = R := ⟨_, rfl⟩
      rw [hR] at HR ⊢
      obtain ⟨W, hW⟩ : ∃ W, w.alloc (.cells #[.pointer (some ⟨B, 0, none⟩), .bool true] 151) = W := ⟨_, rfl⟩
      have G0 : Hid (WS b l W ∧ WK b w W ∧ Blk w.heap.size #[.pointer (some ⟨B, 0, none⟩), .bool true] 151 W ∧ TrAt b W (some ⟨B, 0, none⟩) (.node c v nm x y)) := by rw [← hW]; exact ⟨hw.alloc _, (WK.refl _ _).alloc (Nat.le_of_lt hw.wr.lt) _, Blk.new _ _ _, ht.keep ((Below.refl _ _).alloc (Nat.le_of_lt hw.wr.lt) _)⟩
      have HNE : Hid (w.heap.size ≠ b) := by have := hw.wr.lt; show _ ≠ _; omega
      clear hl hR hw ht
      have q0W : W.cell? ⟨w.heap.size, 0, none⟩ = some (.pointer (some ⟨B, 0, none⟩)) := by rw [G0.out.2.2.1.cell 0]; rfl
      have q1W : W.cell? ⟨w.heap.size, 1, none⟩ = some (.bool true) := by rw [G0.out.2.2.1.cell 1]; rfl
      go_enter Tryz.func104, Tryz.ntmps104
      go_wp2_with fail
      refine (HE.out b _ 1 _ W G0.out.1 G0.out.2.2.2 (by have h9 := HL.out; (try simp at h9 ⊢); omega)).mono ?_
      rintro _ v7 ⟨rfl, h2, h3⟩
      have G7 : Hid (WS b (l ++ prN 1 (.node c v nm x y)) v7 ∧ WK b w v7 ∧ Blk w.heap.size #[.pointer (some ⟨B, 0, none⟩), .bool true] 151 v7 ∧ TrAt b v7 (some ⟨B, 0, none⟩) (.node c v nm x y)) := ⟨h2, G0.out.2.1.trans h3, h3.blk G0.out.2.2.1 HNE.out (by decide), G0.out.2.2.2.keep h3.below⟩
      clear h2 h3
      have q0v7 : v7.cell? ⟨w.heap.size, 0, none⟩ = some (.pointer (some ⟨B, 0, none⟩)) := by rw [G7.out.2.2.1.cell 0]; rfl
      have q1v7 : v7.cell? ⟨w.heap.size, 1, none⟩ = some (.bool true) := by rw [G7.out.2.2.1.cell 1]; rfl
      go_wp2_with fail
      refine (put1 b _ ⟨#[32, 100, 101, 115, 99]⟩ v7 G7.out.1 (by have h9 := HL.out; (try simp at h9 ⊢); omega)).mono ?_
      rintro _ v8 ⟨rfl, h2, h3⟩
      have G8 : Hid (WS b (l ++ prN 1 (.node c v nm x y) ++ [32, 100, 101, 115, 99]) v8 ∧ WK b w v8 ∧ Blk w.heap.size #[.pointer (some ⟨B, 0, none⟩), .bool true] 151 v8 ∧ TrAt b v8 (some ⟨B, 0, none⟩) (.node c v nm x y)) := ⟨h2, G7.out.2.1.trans h3, h3.blk G7.out.2.2.1 HNE.out (by decide), G7.out.2.2.2.keep h3.below⟩
      clear h2 h3
      have q0v8 : v8.cell? ⟨w.heap.size, 0, none⟩ = some (.pointer (some ⟨B, 0, none⟩)) := by rw [G8.out.2.2.1.cell 0]; rfl
      have q1v8 : v8.cell? ⟨w.heap.size, 1, none⟩ = some (.bool true) := by rw [G8.out.2.2.1.cell 1]; rfl
      have HQ : Hid (WS b (l ++ R) v8 ∧ WK b w v8) := ⟨by rw [HR.out]; simpa [List.append_assoc] using G8.out.1, G8.out.2.1⟩
      go_wp2
      go_end0
      exact ⟨rfl, HQ.out.1, HQ.out.2⟩
end Go.Proofs.YtbdcbaamjkjhaaaGreatDoor
