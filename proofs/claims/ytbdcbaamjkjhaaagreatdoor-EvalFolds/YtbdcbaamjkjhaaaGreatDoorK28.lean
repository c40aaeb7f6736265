/- Part 28 of 29. -/
import Derived.Test.YtbdcbaamjkjhaaaGreatDoorK27
import Derived.Lib.SmallJoins
import Derived.LaidHandle
import Derived.Stop.Joined
import Derived.Lay
namespace Go.Proofs.YtbdcbaamjkjhaaaGreatDoor
open Go.ChangeShapes Go.WideShapes Go.ChangeAt Go.RowKit

def aqF (x : Int × Bool × Bool × Bool) : List Value := [.int .i64 x.1, .bool x.2.1, .bool x.2.2.1, .bool x.2.2.2]
def aqD (x : Int × Bool × Bool × Bool) : DataW Unit := .agg [.lit (.int .i64 x.1), .lit (.bool x.2.1), .lit (.bool x.2.2.1), .lit (.bool x.2.2.2)]
theorem cellsA : Tryz.prog.cellsOf 85 = 4 := by kernel_rfl
theorem cells4b : Tryz.prog.cellsOf 4 = 1 := by kernel_rfl
theorem asks_of {enc : TypeId × Value → Unit} {W : World} {spare : Nat → Bool} {held : Bool} {fuel : Nat} {cs : List Value} {p : List MemPlace} (h : DataW.trod enc Tryz.prog W 0 spare held fuel 86 cs = some (.agg (askL.map aqD), p)) (j : Nat) (hj : j < 6) (i : Nat) (hi : i < 4) : cs[j * 4 + i]? = (aqF (askL[j]'hj))[i]? := by
  obtain ⟨f, d, q, hd, ht⟩ := Lib.array_elem Tryz.underlying86 h j hj
  rw [cellsA] at ht
  have hd2 : d = aqD (askL[j]'hj) := by
    rw [List.getElem?_map, List.getElem?_eq_getElem (show j < askL.length from hj)] at hd
    exact (Option.some.inj hd).symm
  obtain ⟨y0, y1, y2, y3, n, e, hl, h0, h1, h2, h3⟩ := Go.Joins.trod_struct4 Tryz.underlying85 ht
  simp only [cells3, cells4b] at h0 h1 h2 h3
  obtain ⟨a0, c0, rfl, _⟩ := DataW.trod_int Tryz.underlying3 h0
  obtain ⟨a1, c1, rfl⟩ := DataW.trod_bool Tryz.underlying4 h1
  obtain ⟨a2, c2, rfl⟩ := DataW.trod_bool Tryz.underlying4 h2
  obtain ⟨a3, c3, rfl⟩ := DataW.trod_bool Tryz.underlying4 h3
  subst hd2
  have e1 := congrArg Prod.fst e
  simp only [aqD, DataW.agg.injEq, List.cons.injEq, DataW.lit.injEq, Lit.int.injEq, Lit.bool.injEq, true_and, and_true] at e1
  obtain ⟨q0, q1, q2, q3⟩ := e1
  have g0 := congrArg (·[0]?) c0
  have g1 := congrArg (·[0]?) c1
  have g2 := congrArg (·[0]?) c2
  have g3 := congrArg (·[0]?) c3
  simp [List.getElem?_drop] at g0 g1 g2 g3
  match i, hi with
  | 0, _ => rw [Nat.add_zero, g0, ← q0]; rfl
  | 1, _ => rw [g1, ← q1]; rfl
  | 2, _ => rw [g2, ← q2]; rfl
  | 3, _ => rw [g3, ← q3]; rfl
theorem gAsked : Tryz.prog.globalNamed "concordance/eval.asked" = some 0 := by kernel_rfl
theorem asked_of_laid {W : World} {L : List (String × DataW Unit)} (h : laidMet Tryz.prog L W) (hm : ("concordance/eval.asked", Rows.laid_concordance_eval_asked) ∈ L) : W.rangeAt 0 0 askCells := by
  obtain ⟨cs, fuel, p, hv, ht⟩ := var_of h hm gAsked (t := 86) (by kernel_rfl)
  have each := asks_of (cs := cs.toList) ht
  intro n v hn
  have hlen : n < 24 := by
    have := (List.getElem?_eq_some_iff.1 hn).1
    rw [show askCells = askL.flatMap aqF from rfl, flat_len (sz := 4) (fun _ => rfl)] at this
    exact this
  have e1 : n = n / 4 * 4 + n % 4 := by omega
  have h1 := each (n / 4) (by omega) (n % 4) (by omega)
  have h2 := flat_at (f := aqF) (sz := 4) (fun _ => rfl) askL (n / 4) (show n / 4 < 6 by omega) (n % 4) (by omega)
  rw [← e1] at h1 h2
  rw [Nat.zero_add, World.var?_cell gAsked hv n, ← Array.getElem?_toList, h1, ← h2]
  exact hn
theorem gType : Tryz.prog.globalNamed "errors.errorType" = some 1 := by kernel_rfl
theorem rtRow : (Tryz.prog.cutTypes.find? (·.1 == "internal/reflectlite.rtype")).map (·.2) = some 156 := by kernel_rfl
theorem oneRow : ((List.range 263).filter fun t => Tryz.prog.rowNamed t [101, 114, 114, 111, 114]) = [32] := by kernel_rfl
theorem sizeT : Tryz.prog.types.size = 263 := by kernel_rfl
theorem handle_of {W : World} (h : handlesMet Tryz.prog [("errors.errorType", Rows.laid_errors_errorType)] W) : HG W := by
  obtain ⟨name, u, ty, e1, e2, e3, e4, e5⟩ := h _ (List.mem_singleton.2 rfl)
  have en : name = [101, 114, 114, 111, 114] := (Option.some.inj e1).symm
  subst en
  obtain rfl := Option.some.inj (rtRow.symm.trans e2)
  have hm : ty ∈ (List.range 263).filter fun t => Tryz.prog.rowNamed t [101, 114, 114, 111, 114] := List.mem_filter.2 ⟨List.mem_range.2 (by rw [← sizeT]; exact e3), e4⟩
  rw [oneRow] at hm
  obtain rfl := List.mem_singleton.1 hm
  have hh : typeHandle Tryz.prog 32 = .pointer (some ⟨13, 32, none⟩) := by kernel_rfl
  rw [hh] at e5
  simpa [HG] using World.var?_cell gType e5 0
/-- what the rows list, but the handle -/
def laidRest : List (String × DataW Unit) := Rows.evalFoldsRow.laid.filter fun x => x.2.handleName?.isNone
theorem rest_mem : Mem laidRest ∧ ("concordance/eval.asked", Rows.laid_concordance_eval_asked) ∈ laidRest := by
  have e : laidRest = [("math/bits.deBruijn32tab", Rows.laid_math_bits_deBruijn32tab), ("math/bits.deBruijn64tab", Rows.laid_math_bits_deBruijn64tab), ("internal/strconv.uint64pow10", Rows.laid_internal_strconv_uint64pow10), ("unicode/utf8.acceptRanges", Rows.laid_unicode_utf8_acceptRanges), ("strconv.ErrRange", Rows.laid_strconv_ErrRange), ("strconv.ErrSyntax", Rows.laid_strconv_ErrSyntax), ("concordance/eval.asked", Rows.laid_concordance_eval_asked), ("concordance/lex.marks", Rows.laid_concordance_lex_marks), ("concordance/parse.pairs", Rows.laid_concordance_parse_pairs), ("concordance/parse.noNames", Rows.laid_concordance_parse_noNames), ("unicode/utf8.first", Rows.laid_unicode_utf8_first)] := by kernel_rfl
  rw [e]
  exact ⟨by refine ⟨?_, ?_, ?_, ?_, ?_, ?_⟩ <;> simp, by simp⟩
theorem lat_of {W : World} (h : laidMetH Tryz.prog Rows.evalFoldsRow.laid W) (hs : W.ShapedOpen Tryz.prog) : LAt W := by
  have e : (Rows.evalFoldsRow.laid.filter fun x => x.2.handleName?.isSome) = [("errors.errorType", Rows.laid_errors_errorType)] := by kernel_rfl
  have h' : laidMet Tryz.prog laidRest W ∧ handlesMet Tryz.prog [("errors.errorType", Rows.laid_errors_errorType)] W := by
    unfold laidMetH at h
    rw [e] at h
    exact h
  exact ⟨bat_of h'.1 rest_mem.1 hs, asked_of_laid h'.1 rest_mem.2, handle_of h'.2⟩
/-- a value that came in, opened -/
theorem cells39 : Tryz.prog.cellsOf 39 = 3 := by kernel_rfl
set_option maxRecDepth 100000 in
theorem val_of {H : Type} {enc : TypeId × Value → H} {W : World} {base : Nat} {v : Value} {d : DataW H} {p : List MemPlace} {spare : Nat → Bool} {held : Bool} (hv : Value.okWide Tryz.prog W .any base 39 v) (h : DataW.Trod enc Tryz.prog W 0 spare held 39 v d p) : ∃ x : Vl, v = vv x ∧ x.t.size ≤ maxLen := by
  obtain ⟨c0, c1, c2, y0, y1, y2, m, rfl, rfl, rfl, h0, h1, h2⟩ := Go.Joins.open_agg3 Tryz.underlying39 (by kernel_rfl) cells39 hv h
  obtain ⟨k, e0, _, _⟩ := DataW.trod_int Tryz.underlying3 h0
  obtain ⟨i, e1, _, _⟩ := DataW.trod_int Tryz.underlying2 h1
  obtain ⟨s, e2, _, w2⟩ := DataW.trod_string Tryz.underlying9 h2
  simp at e0 e1 e2
  subst e0 e1 e2
  exact ⟨⟨k, i, s⟩, rfl, w2⟩
def layCells (cs : Array Value) : Obj → Obj
  | .cells _ t frozen => .cells cs t frozen
  | o => o
theorem lw_os (os : Os) : (({ World.holding Tryz.prog os ⟨#[], #[], []⟩ with heap := (World.holding Tryz.prog os ⟨#[], #[], []⟩).heap.modify 1 (layCells #[.iface 156 (.agg #[.pointer (some ⟨13, 32, none⟩)])]) } : World).layVars Tryz.prog laidRest).os = os := World.layVars_os _ _ _
theorem lw_laid (os : Os) (args : Array Value) (hh : (Rows.evalFoldsRow.laid.filter fun x => x.2.handleName?.isSome).all (handleAtB Tryz.prog ((({ World.holding Tryz.prog os ⟨#[], #[], []⟩ with heap := (World.holding Tryz.prog os ⟨#[], #[], []⟩).heap.modify 1 (layCells #[.iface 156 (.agg #[.pointer (some ⟨13, 32, none⟩)])]) } : World).layVars Tryz.prog laidRest).forCall (fun _ _ => 0) ⟨#[], args, []⟩).memory) = true) (hf : ({ World.holding Tryz.prog os ⟨#[], #[], []⟩ with heap := (World.holding Tryz.prog os ⟨#[], #[], []⟩).heap.modify 1 (layCells #[.iface 156 (.agg #[.pointer (some ⟨13, 32, none⟩)])]) } : World).layFits Tryz.prog laidRest [] = true) (hi : ({ World.holding Tryz.prog os ⟨#[], #[], []⟩ with heap := (World.holding Tryz.prog os ⟨#[], #[], []⟩).heap.modify 1 (layCells #[.iface 156 (.agg #[.pointer (some ⟨13, 32, none⟩)])]) } : World).layIfaces Tryz.prog laidRest (({ World.holding Tryz.prog os ⟨#[], #[], []⟩ with heap := (World.holding Tryz.prog os ⟨#[], #[], []⟩).heap.modify 1 (layCells #[.iface 156 (.agg #[.pointer (some ⟨13, 32, none⟩)])]) } : World).layVars Tryz.prog laidRest) = true) : laidMetH Tryz.prog Rows.evalFoldsRow.laid ((({ World.holding Tryz.prog os ⟨#[], #[], []⟩ with heap := (World.holding Tryz.prog os ⟨#[], #[], []⟩).heap.modify 1 (layCells #[.iface 156 (.agg #[.pointer (some ⟨13, 32, none⟩)])]) } : World).layVars Tryz.prog laidRest).forCall (fun _ _ => 0) ⟨#[], args, []⟩).memory := by
  refine laidMetH_of_parts ?_ hh
  show laidMet Tryz.prog laidRest _
  have e1 : (laidRest.filter fun x => (laidRest.map (·.1)).contains x.1) = laidRest := List.filter_eq_self.2 fun x hx => List.contains_iff_mem.2 (List.mem_map.2 ⟨x, hx, rfl⟩)
  have e2 : (laidRest.filter fun x => !(laidRest.map (·.1)).contains x.1) = [] := List.filter_eq_nil_iff.2 fun x hx => by rw [List.contains_iff_mem.2 (List.mem_map.2 ⟨x, hx, rfl⟩)]; simp
  have h : laidMet Tryz.prog laidRest (({ World.holding Tryz.prog os ⟨#[], #[], []⟩ with heap := (World.holding Tryz.prog os ⟨#[], #[], []⟩).heap.modify 1 (layCells #[.iface 156 (.agg #[.pointer (some ⟨13, 32, none⟩)])]) } : World).layVars Tryz.prog laidRest) := laidMet_layVars (w0 := ({ World.holding Tryz.prog os ⟨#[], #[], []⟩ with heap := (World.holding Tryz.prog os ⟨#[], #[], []⟩).heap.modify 1 (layCells #[.iface 156 (.agg #[.pointer (some ⟨13, 32, none⟩)])]) } : World)) (laidRest.map (·.1)) [] (by rw [e1]) (by rw [e1]; exact hf) (by rw [e1]; exact hi) (by rw [e2]; exact LaidIn.none)
  exact h.of_heap (by simp [World.memory, World.forCall, Input.heap])
end Go.Proofs.YtbdcbaamjkjhaaaGreatDoor
