/- What the lists of laid variables give: the marks; and what the world's shape gives: a number. -/
import Derived.Test.YtgmibjcccdgkgaaDoorQSplit
import Derived.ProofKit
import Derived.OpenShut
import Derived.Deep.DeepHandedRow
import Derived.Lib.LaidU8
import Derived.Shelf.Vars
namespace Go.Proofs.YtgmibjcccdgkgaaDoor
open Go.ChangeShapes Go.WideShapes Go.ChangeAt Go.RowKit

theorem gMarks : Tryd.prog.globalNamed "concordance/lex.marks" = some 1 := by kernel_rfl
theorem tMarks : (Tryd.prog.globals[1]?).map (·.type) = some 85 := by kernel_rfl
theorem str_of {H : Type} {enc : TypeId × Value → H} {W : World} {spare : Nat → Bool} {held : Bool} {fuel : Nat} {cs : List Value} {i : Nat} {a : List UInt8} {q : List MemPlace}
    (h : DataW.trod enc Tryd.prog W 0 spare held fuel 9 ((cs.drop (i * 1)).take 1) = some (.lit (.string a), q)) : cs[i]? = some (.string ⟨a.toArray⟩) := by
  obtain ⟨s0, e0, f0, _⟩ := DataW.trod_string Tryd.underlying9 h
  simp at f0
  obtain ⟨rfl, _⟩ := f0
  have g0 := congrArg (·[0]?) e0
  simp [List.getElem?_drop] at g0
  simpa using g0
theorem marks_of {W : World} {fuel : Nat} {cs : Array Value} {p : List MemPlace} {spare : Nat → Bool} {held : Bool} {enc : TypeId × Value → Unit} (hv : W.var? Tryd.prog "concordance/lex.marks" = some cs)
    (h : DataW.trod enc Tryd.prog W 0 spare held fuel 85 cs.toList = some (Rows.laid_concordance_lex_marks, p)) : MarksAt W := by
  have each := fun i hi => Lib.array_elem (n := 14) Tryd.underlying85 h i hi
  simp only [cells9] at each
  obtain ⟨_, d0, _, hd0, ht0⟩ := each 0 (by omega)
  obtain rfl := Option.some.inj hd0
  have g0 := str_of (i := 0) ht0
  obtain ⟨_, d1, _, hd1, ht1⟩ := each 1 (by omega)
  obtain rfl := Option.some.inj hd1
  have g1 := str_of (i := 1) ht1
  obtain ⟨_, d2, _, hd2, ht2⟩ := each 2 (by omega)
  obtain rfl := Option.some.inj hd2
  have g2 := str_of (i := 2) ht2
  obtain ⟨_, d3, _, hd3, ht3⟩ := each 3 (by omega)
  obtain rfl := Option.some.inj hd3
  have g3 := str_of (i := 3) ht3
  obtain ⟨_, d4, _, hd4, ht4⟩ := each 4 (by omega)
  obtain rfl := Option.some.inj hd4
  have g4 := str_of (i := 4) ht4
  obtain ⟨_, d5, _, hd5, ht5⟩ := each 5 (by omega)
  obtain rfl := Option.some.inj hd5
  have g5 := str_of (i := 5) ht5
  obtain ⟨_, d6, _, hd6, ht6⟩ := each 6 (by omega)
  obtain rfl := Option.some.inj hd6
  have g6 := str_of (i := 6) ht6
  obtain ⟨_, d7, _, hd7, ht7⟩ := each 7 (by omega)
  obtain rfl := Option.some.inj hd7
  have g7 := str_of (i := 7) ht7
  obtain ⟨_, d8, _, hd8, ht8⟩ := each 8 (by omega)
  obtain rfl := Option.some.inj hd8
  have g8 := str_of (i := 8) ht8
  obtain ⟨_, d9, _, hd9, ht9⟩ := each 9 (by omega)
  obtain rfl := Option.some.inj hd9
  have g9 := str_of (i := 9) ht9
  obtain ⟨_, d10, _, hd10, ht10⟩ := each 10 (by omega)
  obtain rfl := Option.some.inj hd10
  have g10 := str_of (i := 10) ht10
  obtain ⟨_, d11, _, hd11, ht11⟩ := each 11 (by omega)
  obtain rfl := Option.some.inj hd11
  have g11 := str_of (i := 11) ht11
  obtain ⟨_, d12, _, hd12, ht12⟩ := each 12 (by omega)
  obtain rfl := Option.some.inj hd12
  have g12 := str_of (i := 12) ht12
  obtain ⟨_, d13, _, hd13, ht13⟩ := each 13 (by omega)
  obtain rfl := Option.some.inj hd13
  have g13 := str_of (i := 13) ht13
  clear each
  refine ⟨?_, ?_, ?_, ?_, ?_, ?_, ?_, ?_, ?_, ?_, ?_, ?_, ?_, ?_⟩
  · rw [World.var?_cell gMarks hv 0, ← Array.getElem?_toList]; exact g0
  · rw [World.var?_cell gMarks hv 1, ← Array.getElem?_toList]; exact g1
  · rw [World.var?_cell gMarks hv 2, ← Array.getElem?_toList]; exact g2
  · rw [World.var?_cell gMarks hv 3, ← Array.getElem?_toList]; exact g3
  · rw [World.var?_cell gMarks hv 4, ← Array.getElem?_toList]; exact g4
  · rw [World.var?_cell gMarks hv 5, ← Array.getElem?_toList]; exact g5
  · rw [World.var?_cell gMarks hv 6, ← Array.getElem?_toList]; exact g6
  · rw [World.var?_cell gMarks hv 7, ← Array.getElem?_toList]; exact g7
  · rw [World.var?_cell gMarks hv 8, ← Array.getElem?_toList]; exact g8
  · rw [World.var?_cell gMarks hv 9, ← Array.getElem?_toList]; exact g9
  · rw [World.var?_cell gMarks hv 10, ← Array.getElem?_toList]; exact g10
  · rw [World.var?_cell gMarks hv 11, ← Array.getElem?_toList]; exact g11
  · rw [World.var?_cell gMarks hv 12, ← Array.getElem?_toList]; exact g12
  · rw [World.var?_cell gMarks hv 13, ← Array.getElem?_toList]; exact g13

theorem marks_of_laid {W : World} {L : List (String × DataW Unit)} (h : laidMet Tryd.prog L W) (hm : ("concordance/lex.marks", Rows.laid_concordance_lex_marks) ∈ L) : MarksAt W := by
  obtain ⟨g, t, cs, fuel, p, hg, ht, hv, htr⟩ := Lib.laidMet.reads h hm
  obtain rfl : t = 85 := by
    obtain rfl : g = 1 := by rw [gMarks] at hg; exact (Option.some.inj hg).symm
    rw [tMarks] at ht; exact (Option.some.inj ht).symm
  exact marks_of hv htr
theorem max_of_shape {W : World} (h : W.ShapedOpen Tryd.prog) : MaxAt W := Go.Proofs.cell_of_shapedOpen_int (zero := #[.int .i64 0]) (t := 3) h (of_decide_eq_true (by kernel_rfl)) (by kernel_rfl) rfl (by kernel_rfl) (by kernel_rfl) Tryd.underlying3
/-- a block's cells, laid -/
def layCells (cs : Array Value) : Obj → Obj
  | .cells _ t frozen => .cells cs t frozen
  | o => o
def markCells : Array Value := #[.string ⟨#[60, 62]⟩, .string ⟨#[60, 61]⟩, .string ⟨#[62, 61]⟩, .string ⟨#[60]⟩, .string ⟨#[62]⟩, .string ⟨#[61]⟩, .string ⟨#[43]⟩, .string ⟨#[45]⟩, .string ⟨#[42]⟩, .string ⟨#[40]⟩, .string ⟨#[41]⟩, .string ⟨#[44]⟩, .string ⟨#[46]⟩, .string ⟨#[59]⟩]
def firstCells : Array Value := (Go.Pinned.utf8FirstZ.map fun (n : Nat) => Value.int .u8 n).toArray
def rangeCells : Array Value := ((([128, 191, 160, 191, 128, 159, 144, 191, 128, 143] : List Nat) ++ List.replicate 22 0).map fun (n : Nat) => Value.int .u8 n).toArray
end Go.Proofs.YtgmibjcccdgkgaaDoor
