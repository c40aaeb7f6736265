/- The tokens of any text, or where it has none, are the document's: for every text the function LexSplits of the package concordancelaw returns true, and leaves the text as it was. The package variables errors.errorType, concordanceref.Fine, lex.marks, utf8.first and utf8.acceptRanges start as the program's text lays them, and the card ties them. -/
import Derived.Test.YtgmibjcccdgkgaaDoorLTok
import Derived.Test.YtgmibjcccdgkgaaDoorQLaid
import Derived.Test.YtgmibjcccdgkgaaDoorCards
import Derived.Test.YtgmibjcccdgkgaaDoorTie
import Derived.ProofKit
import Derived.OpenShut
import Derived.Deep.DeepHandedRow
import Derived.Deep.Strs
import Derived.Lib.LaidU8
import Derived.LaidHandle
import Derived.Stop.Joined
namespace Go.Proofs.YtgmibjcccdgkgaaDoor
open Go.ChangeShapes Go.WideShapes Go.ChangeAt Go.RowKit
open Go.ChangeMaps (open_string shut_string)

theorem gType : Tryd.prog.globalNamed "errors.errorType" = some 4 := by kernel_rfl
theorem rtRow : (Tryd.prog.cutTypes.find? (·.1 == "internal/reflectlite.rtype")).map (·.2) = some 115 := by kernel_rfl
theorem oneRow : ((List.range 158).filter fun t => Tryd.prog.rowNamed t [101, 114, 114, 111, 114]) = [30] := by kernel_rfl
theorem sizeT : Tryd.prog.types.size = 158 := by kernel_rfl

theorem gFine : Tryd.prog.globalNamed "concordance/concordanceref.Fine" = some 0 := by kernel_rfl
theorem tFine : (Tryd.prog.globals[0]?).map (·.type) = some 25 := by kernel_rfl
theorem cellsFault : Tryd.prog.cellsOf 25 = 2 := by kernel_rfl
theorem cellsErr : Tryd.prog.cellsOf 23 = 1 := by kernel_rfl
/-- what the row lays, but the handle -/
def laidRest : List (String × DataW Unit) := [("unicode/utf8.acceptRanges", Rows.laid_unicode_utf8_acceptRanges), ("concordance/concordanceref.Fine", Rows.laid_concordance_concordanceref_Fine), ("concordance/lex.marks", Rows.laid_concordance_lex_marks), ("unicode/utf8.first", Rows.laid_unicode_utf8_first)]
/-- .. Fine's two cells -/
theorem fine_laid {W : World} (h : laidMetH Tryd.prog Rows.lexSplitsRow.laid W) : FineAt W := by
  have h' : laidMet Tryd.prog laidRest W ∧ handlesMet Tryd.prog [("errors.errorType", Rows.laid_errors_errorType)] W := h
  obtain ⟨g, t, cs, fuel, p, hg, ht, hv, htr⟩ := Lib.laidMet.reads h'.1 (List.mem_cons_of_mem _ List.mem_cons_self)
  obtain rfl : g = 0 := by rw [gFine] at hg; exact (Option.some.inj hg).symm
  obtain rfl : t = 25 := by rw [tFine] at ht; exact (Option.some.inj ht).symm
  have hcs := Lib.ints_of_struct (zs := [0, -1]) (k := .i64) Tryd.underlying25 (fun i f hf => by
    match i, hf with
    | 0, hf => simp at hf; subst hf; exact ⟨Tryd.underlying23, rfl, cellsErr⟩
    | 1, hf => simp at hf; subst hf; exact ⟨Tryd.underlying3, rfl, cells3⟩
    | i + 2, hf => simp at hf) cellsFault htr
  have e0 := World.var?_cell gFine hv 0
  have e1 := World.var?_cell gFine hv 1
  have hl : cs = #[.int .i64 0, .int .i64 (-1)] := by
    cases cs with
    | mk l => simp at hcs; subst hcs; rfl
  rw [hl] at e0 e1
  exact ⟨e0, e1⟩
theorem marks_laid {W : World} (h : laidMetH Tryd.prog Rows.lexSplitsRow.laid W) : MarksAt W := by
  have h' : laidMet Tryd.prog laidRest W ∧ handlesMet Tryd.prog [("errors.errorType", Rows.laid_errors_errorType)] W := h
  exact marks_of_laid h'.1 (List.mem_cons_of_mem _ (List.mem_cons_of_mem _ List.mem_cons_self))
/-- what the row's list gives: the handle of the type error -/
theorem handle_of_laid {W : World} (h : laidMetH Tryd.prog Rows.lexSplitsRow.laid W) : HG W := by
  have h' : laidMet Tryd.prog laidRest W ∧ handlesMet Tryd.prog [("errors.errorType", Rows.laid_errors_errorType)] W := h
  obtain ⟨name, u, ty, e1, e2, e3, e4, e5⟩ := h'.2 _ (List.mem_singleton.2 rfl)
  have en : name = [101, 114, 114, 111, 114] := (Option.some.inj e1).symm
  subst en
  obtain rfl := Option.some.inj (rtRow.symm.trans e2)
  have hm : ty ∈ (List.range 158).filter fun t => Tryd.prog.rowNamed t [101, 114, 114, 111, 114] := List.mem_filter.2 ⟨List.mem_range.2 (by rw [← sizeT]; exact e3), e4⟩
  rw [oneRow] at hm
  obtain rfl := List.mem_singleton.1 hm
  have hh : typeHandle Tryd.prog 30 = .pointer (some ⟨7, 30, none⟩) := by kernel_rfl
  rw [hh] at e5
  simpa [HG] using World.var?_cell gType e5 0

theorem lsplits_all (s : ByteArray) (w : World) (h : s.size ≤ maxLen) (hg : HG w) (he : FineAt w) (hv : VarsAt w) : Calls Tryd.prog 3 #[.string s] w fun e w' => e = .returned (.bool true) ∧ Below w.heap.size w w' := by
  by_cases hl : 1500 < s.size
  · exact splits_long s w h hl
  · exact splits_short (fun s w h hf => tokens_any s w h hf) split_any s w (by omega) he hg hv

set_option maxRecDepth 100000 in
theorem contract (H : Type) (enc : TypeId × Value → H) (W : World) (base : Nat) (args : Array Value) (ds gs : List (DataW H)) (before : List MemPlace)
    (hval : ∀ (j : Nat) t v, Tryd.f3.params[j]? = some t → args[j]? = some v → Value.okWide Tryd.prog W .any base t v)
    (hW : DataW.Whole enc Tryd.prog Tryd.f3.params.toList Rows.lexSplitsSpec.vars false W args.toList ds gs before) (hL : laidMetH Tryd.prog Rows.lexSplitsRow.laid W) (hSh : W.ShapedOpen Tryd.prog) :
    Calls Tryd.prog 3 args W fun e W' => ∃ v, e = .returned v ∧ Rows.lexSplitsSpec.post enc Tryd.prog Tryd.f3 false true false false W args v W' := by
  have hW' := hW
  obtain ⟨p, q, hA0, hV, rfl, hfz, hnd⟩ := hW
  have hA : DataW.TrodAll enc Tryd.prog W 0 (fun _ => true) true Tryd.f3.params.toList args.toList ds p := hA0
  rw [Tryd.params3] at hA hval
  obtain ⟨v0, d0, rfl, rfl, h0⟩ := trodAll_one hA
  obtain ⟨rfl, rfl⟩ := trodVars_none hV
  obtain ⟨s, rfl, rfl, rfl, hs⟩ := open_string Tryd.underlying9 (hval 0 9 v0 rfl rfl) h0
  clear hA0
  refine (lsplits_all s W hs (handle_of_laid hL) (fine_laid hL) ⟨marks_laid hL, max_of_shape hSh⟩).mono fun e W' ⟨he, bel⟩ => ?_
  subst he
  exact ⟨_, rfl, _, _, _, [], _, [], hW', trodAll_mk1 (shut_bool Tryd.underlying4 _), (trodAll_mk1 (shut_string Tryd.underlying9 hs)), rfl, bel.frame _, fun h => by cases h⟩
def fineCells : Array Value := #[.int .i64 0, .int .i64 (-1)]

theorem laid_met (os : Os) : laidMetH Tryd.prog Rows.lexSplitsRow.laid (({ World.holding Tryd.prog os ⟨#[], #[], []⟩ with heap := (((((World.holding Tryd.prog os ⟨#[], #[], []⟩).heap.modify 4 (layCells #[.iface 115 (.agg #[.pointer (some ⟨7, 30, none⟩)])])).modify 0 (layCells fineCells)).modify 1 (layCells markCells)).modify 5 (layCells firstCells)).modify 6 (layCells rangeCells) } : World).forCall (fun _ _ => 0) ⟨#[], #[.string ⟨#[]⟩], []⟩).memory :=
  laidMetH_of_parts (laidMet_of_run' 8 (by kernel_rfl) (by kernel_rfl)) (by kernel_rfl)
theorem reads (os : Os) {H : Type} (enc : TypeId × Value → H) : ∃ places, DataW.whole enc Tryd.prog (({ World.holding Tryd.prog os ⟨#[], #[], []⟩ with heap := (((((World.holding Tryd.prog os ⟨#[], #[], []⟩).heap.modify 4 (layCells #[.iface 115 (.agg #[.pointer (some ⟨7, 30, none⟩)])])).modify 0 (layCells fineCells)).modify 1 (layCells markCells)).modify 5 (layCells firstCells)).modify 6 (layCells rangeCells) } : World).forCall (fun _ _ => 0) ⟨#[], #[.string ⟨#[]⟩], []⟩).memory Tryd.f3.params.toList Rows.lexSplitsSpec.vars false #[Value.string ⟨#[]⟩].toList 8 = some ([.lit (.string [])], [], places) :=
  ⟨[], by kernel_rfl⟩

set_option maxRecDepth 100000 in
theorem lifted (os : Os) (started : os.Started) (H : Type) (enc : TypeId × Value → H) (F : Stop.Interp) :
    ReturnsInHanded {} Tryd.checked os 3 .any ((OpenSpec.ofChange Rows.lexSplitsSpec).preRow enc Tryd.prog Tryd.f3 Rows.lexSplitsRow.domain false Rows.lexSplitsRow.laid) (((OpenSpec.ofChange Rows.lexSplitsSpec).at F).post enc Tryd.prog Tryd.f3 false true false false) := by
  obtain ⟨places, hx⟩ := reads os enc
  refine returnsInHanded_of_row (C := Tryd.checked) (s := OpenSpec.ofChange Rows.lexSplitsSpec) Tryd.own started (by kernel_rfl) Tryd.func3
    (witness_row_at (enc := enc) (C := Tryd.checked) false ({ World.holding Tryd.prog os ⟨#[], #[], []⟩ with heap := (((((World.holding Tryd.prog os ⟨#[], #[], []⟩).heap.modify 4 (layCells #[.iface 115 (.agg #[.pointer (some ⟨7, 30, none⟩)])])).modify 0 (layCells fineCells)).modify 1 (layCells markCells)).modify 5 (layCells firstCells)).modify 6 (layCells rangeCells) } : World) #[.string ⟨#[]⟩] rfl (by kernel_rfl) (by kernel_rfl) (by kernel_rfl)
      (OpenSpec.preRow_of_cond 8 hx (by kernel_rfl) (fun k hk => by cases hk) (by kernel_rfl) (laid_met os))) ?_
  intro W base args ds gs before hval hW _ _ _ hL hSh _
  exact contract H enc W base args ds gs before hval hW hL hSh

theorem lsplits_said : Rows.LexSplitsSaid :=
  OpenClaim.holds_of_cond 3 Tryd.f3 rfl rfl rfl rfl rfl rfl rfl ⟨rfl, rfl, rfl, rfl, rfl⟩ rfl rfl rfl rfl rfl (by kernel_rfl) Tryd.func3 (by kernel_rfl)
    (of_decide_eq_true (by kernel_rfl)) (by unfold Func.isWrapper; first | (rw [if_pos (by decide +kernel)]; kernel_rfl) | (rw [if_neg (by decide +kernel)]; exact ⟨rfl, rfl⟩))
    (fun os started H enc _ F => by rw [OpenClaim.pre_eq_preRow]; exact lifted os started H enc F)

/-- no parameter wants a stand-in; what the card asks of the looks -/
theorem plain (f : FuncId) (fn : Func) (hf : Tryd.pinned.checked.prog.funcNamed "concordance/concordancelaw.LexSplits" = some f) (hfn : Tryd.pinned.checked.prog.funcs[f]? = some fn) :
    true = Tryd.pinned.checked.prog.looks [] ∧ ∀ (j : Nat) t, fn.params[j]? = some t → Tryd.pinned.checked.prog.wantsStandIn t = false := by
  obtain rfl : f = 3 := Option.some.inj ((show Tryd.prog.funcNamed "concordance/concordancelaw.LexSplits" = some 3 by kernel_rfl).symm.trans hf) |>.symm
  obtain rfl : fn = Tryd.f3 := (Option.some.inj (Tryd.func3.symm.trans hfn)).symm
  refine ⟨by kernel_rfl, fun j t ht => ?_⟩
  rw [Tryd.params3] at ht
  have hm : t = 9 := by simpa using Array.mem_of_getElem? ht
  subst hm
  exact (show Tryd.prog.wantsStandIn 9 = false by kernel_rfl)

theorem lsplits_card : Rows.LexSplitsCardSaid :=
  Claim7.holds_tied_plain_at .later [] _ _ _ _ lsplits_said (fun _ h => by cases h) (by kernel_rfl) (fun _ h => by cases h) lexSplits_row_tie rfl ⟨rfl, rfl⟩ (by kernel_rfl) rfl plain (by kernel_rfl)
#print axioms lsplits_card
end Go.Proofs.YtgmibjcccdgkgaaDoor
