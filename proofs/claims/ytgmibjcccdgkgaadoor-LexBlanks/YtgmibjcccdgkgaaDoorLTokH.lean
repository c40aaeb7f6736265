/- What the document's Tokens tells. -/
import Derived.Test.YtgmibjcccdgkgaaDoorLTok0
namespace Go.Proofs.YtgmibjcccdgkgaaDoor
open Go.RowKit

/-- what Tokens tells -/
def ToldT (w : World) (R : Except (Int × Nat) (List Tok)) (e : Ending) (w' : World) : Prop :=
  ((∃ (n : Int) (p : Nat), R = .error (n, p) ∧ e = .returned (.tuple #[.slice none 0 0, .agg #[.int .i64 n, .int .i64 (p : Int)]])) ∨ ∃ L v, R = .ok L ∧ e = .returned (.tuple #[v, .agg #[.int .i64 0, .int .i64 (-1)]]) ∧ w'.ownsRow w.heap.size 36 3 v L.length (tc L)) ∧ Below w.heap.size w w'
theorem str_add (x y : ByteArray) (h : x.size + y.size ≤ 1000000) : Op.stringOp .add x y = pure (.string (x ++ y)) := by
  have hn : ¬ (((x.size + y.size : Nat) : Int) > IntKind.i64.max) := by
    have : IntKind.i64.max = 9223372036854775807 := by decide
    omega
  simp only [Op.stringOp, if_neg hn]
/-- the document's Fine -/
def FineAt (w : World) : Prop := w.cell? ⟨0, 0, none⟩ = some (.int .i64 0) ∧ w.cell? ⟨0, 1, none⟩ = some (.int .i64 (-1))
/-- the result's cells -/
theorem res_cells {w wx : World} (h : Below (w.alloc (.cells #[.int .i64 0, .int .i64 0] 25)).heap.size (w.alloc (.cells #[.int .i64 0, .int .i64 0] 25)) wx) : (wx.cell? ⟨w.heap.size, 0, none⟩ = some (.int .i64 0) ∧ wx.cell? ⟨w.heap.size, 1, none⟩ = some (.int .i64 0)) ∧ wx.frozen? ⟨w.heap.size, 0, none⟩ = false ∧ wx.frozen? ⟨w.heap.size, 1, none⟩ = false := by
  refine ⟨⟨?_, ?_⟩, ?_, ?_⟩
  · rw [h.cell (p := ⟨w.heap.size, 0, none⟩) (by simp)]; simp [go_sem]
  · rw [h.cell (p := ⟨w.heap.size, 1, none⟩) (by simp)]; simp [go_sem]
  · rw [World.frozen?_of_block (a := ⟨w.heap.size, 0, none⟩) (h.block w.heap.size (by simp))]; simp [go_sem]
  · rw [World.frozen?_of_block (a := ⟨w.heap.size, 1, none⟩) (h.block w.heap.size (by simp))]; simp [go_sem]
theorem below_res {w wx : World} (h : Below (w.alloc (.cells #[.int .i64 0, .int .i64 0] 25)).heap.size (w.alloc (.cells #[.int .i64 0, .int .i64 0] 25)) wx) : Below w.heap.size w wx := ((Below.refl _ _).alloc (Nat.le_refl _) _).trans (h.mono (by simp))
def TokSpec : Prop := ∀ (s : ByteArray) (w : World), s.size ≤ 2000 → FineAt w → Calls Tryd.prog 5 #[.string s] w fun e w' => ToldT w (lexS s) e w'
end Go.Proofs.YtgmibjcccdgkgaaDoor
