/- Part 29 of 30. -/
import Derived.Test.YtmabfbffpedfnaaGreatDoorK28
import Derived.ProofKit
import Derived.OpenShut
import Derived.Deep.DeepHandedRow
import Derived.Lib.LaidU8
import Derived.Lib.LaidTab
import Derived.Deep.Strs
import Derived.Shelf.Vars
import Derived.Lib.SmallJoins
import Derived.Stop.Joined
import Derived.Lay
import Derived.MakeChecks
namespace Go.Proofs.YtmabfbffpedfnaaGreatDoor
open Go.ChangeShapes Go.WideShapes Go.ChangeAt Go.RowKit

/-- an array of texts -/
theorem strs_of {enc : TypeId × Value → Unit} {W : World} {spare : Nat → Bool} {held : Bool} {T n fuel : Nat} {cs : List Value} {p : List MemPlace} {L : List ByteArray} (hu : Tryz.prog.underlying T = some (.array n 9)) (hn : n = L.length) (h : DataW.trod enc Tryz.prog W 0 spare held fuel T cs = some (.agg (L.map fun k => .lit (.string k.data.toList)), p)) (i : Nat) (hi : i < L.length) : cs[i]? = some (.string L[i]) := by
  obtain ⟨f, d, q, hd, ht⟩ := Lib.array_elem hu h i (by omega)
  rw [cells9] at ht
  obtain ⟨s0, e0, f0, _⟩ := DataW.trod_string Tryz.underlying9 ht
  have hd2 : d = .lit (.string L[i].data.toList) := by
    rw [List.getElem?_map, List.getElem?_eq_getElem hi] at hd
    exact (Option.some.inj hd).symm
  have f1 : (d, q) = (DataW.lit (.string s0.data.toList), []) := f0
  rw [hd2] at f1
  have f2 : L[i].data.toList = s0.data.toList := by
    have := congrArg Prod.fst f1
    simpa using this
  have g0 := congrArg (·[0]?) e0
  simp only [Nat.mul_one, List.getElem?_take, List.getElem?_drop] at g0
  have : cs[i]? = some (.string s0) := by simpa using g0
  rw [this, ba_ext f2.symm]
/-- what lies flat -/
theorem flat_at {α : Type} {f : α → List Value} {sz : Nat} (hz : ∀ a, (f a).length = sz) (L : List α) : ∀ j (hj : j < L.length) i, i < sz → (L.flatMap f)[j * sz + i]? = (f L[j])[i]? := by
  induction L with
  | nil => intro j hj; simp at hj
  | cons a L ih =>
    intro j hj i hi
    have hl := hz a
    cases j with
    | zero => rw [Nat.zero_mul, Nat.zero_add, List.flatMap_cons, List.getElem?_append_left (by omega)]; rfl
    | succ j =>
      rw [List.flatMap_cons, List.getElem?_append_right (by rw [hl, Nat.succ_mul]; omega)]
      have := ih j (by simpa using hj) i hi
      rw [List.getElem_cons_succ, ← this]
      congr 1
      rw [hl, Nat.succ_mul]; omega
theorem flat_len {α : Type} {f : α → List Value} {sz : Nat} (hz : ∀ a, (f a).length = sz) (L : List α) : (L.flatMap f).length = L.length * sz := by
  induction L with
  | nil => simp
  | cons a L ih => rw [List.flatMap_cons, List.length_append, ih, hz, List.length_cons, Nat.succ_mul]; omega
def pairF (x : Int × ByteArray × Int) : List Value := [.int .i64 x.1, .string x.2.1, .int .i64 x.2.2]
def pairD (x : Int × ByteArray × Int) : DataW Unit := .agg [.lit (.int .i64 x.1), .lit (.string x.2.1.data.toList), .lit (.int .i64 x.2.2)]
theorem cellsP : Tryz.prog.cellsOf 172 = 3 := by kernel_rfl
theorem pairs_of {enc : TypeId × Value → Unit} {W : World} {spare : Nat → Bool} {held : Bool} {fuel : Nat} {cs : List Value} {p : List MemPlace} (h : DataW.trod enc Tryz.prog W 0 spare held fuel 173 cs = some (.agg (pairL.map pairD), p)) (j : Nat) (hj : j < 11) (i : Nat) (hi : i < 3) : cs[j * 3 + i]? = (pairF (pairL[j]'hj))[i]? := by
  obtain ⟨f, d, q, hd, ht⟩ := Lib.array_elem Tryz.underlying173 h j hj
  rw [cellsP] at ht
  have hd2 : d = pairD (pairL[j]'hj) := by
    rw [List.getElem?_map, List.getElem?_eq_getElem (show j < pairL.length from hj)] at hd
    exact (Option.some.inj hd).symm
  obtain ⟨y0, y1, y2, n, e, hl, h0, h1, h2⟩ := Go.Deep.trod_struct3 Tryz.underlying172 ht
  simp only [cells3, cells9] at h0 h1 h2
  obtain ⟨a0, c0, rfl, _⟩ := DataW.trod_int Tryz.underlying3 h0
  obtain ⟨a1, c1, rfl, _⟩ := DataW.trod_string Tryz.underlying9 h1
  obtain ⟨a2, c2, rfl, _⟩ := DataW.trod_int Tryz.underlying3 h2
  subst hd2
  have e1 := congrArg Prod.fst e
  simp only [pairD, DataW.agg.injEq, List.cons.injEq, DataW.lit.injEq, Lit.int.injEq, Lit.string.injEq, true_and, and_true] at e1
  obtain ⟨q0, q1, q2⟩ := e1
  have g0 := congrArg (·[0]?) c0
  have g1 := congrArg (·[0]?) c1
  have g2 := congrArg (·[0]?) c2
  simp [List.getElem?_drop] at g0 g1 g2
  match i, hi with
  | 0, _ => rw [Nat.add_zero, g0, ← q0]; rfl
  | 1, _ => rw [g1, ← ba_ext q1]; rfl
  | 2, _ => rw [g2, ← q2]; rfl
theorem var_of {W : World} {L : List (String × DataW Unit)} (h : laidMet Tryz.prog L W) {n : String} {d : DataW Unit} (hm : (n, d) ∈ L) {g t : Nat} (hg : Tryz.prog.globalNamed n = some g) (ht : (Tryz.prog.globals[g]?).map (·.type) = some t) : ∃ cs fuel p, W.var? Tryz.prog n = some cs ∧ DataW.trod (fun _ => ()) Tryz.prog W 0 (fun _ => true) false fuel t cs.toList = some (d, p) := by
  obtain ⟨g', t', cs, fuel, p, hg', ht', hv, htr⟩ := Lib.laidMet.reads h hm
  obtain rfl := Option.some.inj (hg.symm.trans hg')
  obtain rfl := Option.some.inj (ht.symm.trans ht')
  exact ⟨cs, fuel, p, hv, htr⟩
def markL2 : List ByteArray := [⟨#[60, 62]⟩, ⟨#[60, 61]⟩, ⟨#[62, 61]⟩, ⟨#[60]⟩, ⟨#[62]⟩, ⟨#[61]⟩, ⟨#[43]⟩, ⟨#[45]⟩, ⟨#[42]⟩, ⟨#[40]⟩, ⟨#[41]⟩, ⟨#[44]⟩, ⟨#[46]⟩, ⟨#[59]⟩]
theorem gMarks : Tryz.prog.globalNamed "concordance/lex.marks" = some 1 := by kernel_rfl
theorem marks_of_laid {W : World} {L : List (String × DataW Unit)} (h : laidMet Tryz.prog L W) (hm : ("concordance/lex.marks", Rows.laid_concordance_lex_marks) ∈ L) : MarksAt W := by
  obtain ⟨cs, fuel, p, hv, ht⟩ := var_of h hm gMarks (t := 138) (by kernel_rfl)
  have each := strs_of (L := markL2) Tryz.underlying138 rfl ht
  have key : ∀ i (hi : i < 14), W.cell? ⟨1, i, none⟩ = some (.string (markL2[i]'hi)) := fun i hi => by rw [World.var?_cell gMarks hv i, ← Array.getElem?_toList]; exact each i hi
  exact ⟨key 0 (by decide), key 1 (by decide), key 2 (by decide), key 3 (by decide), key 4 (by decide), key 5 (by decide), key 6 (by decide), key 7 (by decide), key 8 (by decide), key 9 (by decide), key 10 (by decide), key 11 (by decide), key 12 (by decide), key 13 (by decide)⟩
theorem gNames : Tryz.prog.globalNamed "concordance/parse.noNames" = some 2 := by kernel_rfl
theorem names_of_laid {W : World} {L : List (String × DataW Unit)} (h : laidMet Tryz.prog L W) (hm : ("concordance/parse.noNames", Rows.laid_concordance_parse_noNames) ∈ L) : W.rangeAt 2 0 nameCells := by
  obtain ⟨cs, fuel, p, hv, ht⟩ := var_of h hm gNames (t := 160) (by kernel_rfl)
  have each := strs_of (L := keepL) Tryz.underlying160 rfl ht
  intro i v hi
  rw [nameCells, List.getElem?_map] at hi
  obtain ⟨k, hk, rfl⟩ := Option.map_eq_some_iff.1 hi
  obtain ⟨hlt, rfl⟩ := List.getElem?_eq_some_iff.1 hk
  rw [Nat.zero_add, World.var?_cell gNames hv i, ← Array.getElem?_toList]
  exact each i hlt
theorem gPairs : Tryz.prog.globalNamed "concordance/parse.pairs" = some 6 := by kernel_rfl
theorem pairs_of_laid {W : World} {L : List (String × DataW Unit)} (h : laidMet Tryz.prog L W) (hm : ("concordance/parse.pairs", Rows.laid_concordance_parse_pairs) ∈ L) : W.rangeAt 6 0 pairCells := by
  obtain ⟨cs, fuel, p, hv, ht⟩ := var_of h hm gPairs (t := 173) (by kernel_rfl)
  have each := pairs_of (cs := cs.toList) ht
  intro n v hn
  have hlen : n < 33 := by
    have := (List.getElem?_eq_some_iff.1 hn).1
    rw [show pairCells = pairL.flatMap pairF from rfl, flat_len (sz := 3) (fun _ => rfl)] at this
    exact this
  have e1 : n = n / 3 * 3 + n % 3 := by omega
  have h1 := each (n / 3) (by omega) (n % 3) (by omega)
  have h2 := flat_at (f := pairF) (sz := 3) (fun _ => rfl) pairL (n / 3) (show n / 3 < 11 by omega) (n % 3) (by omega)
  rw [← e1] at h1 h2
  rw [Nat.zero_add, World.var?_cell gPairs hv n, ← Array.getElem?_toList, h1, ← h2]
  exact hn
theorem pow_of_laid {W : World} {L : List (String × DataW Unit)} (h : laidMet Tryz.prog L W) (hm : ("internal/strconv.uint64pow10", Rows.laid_internal_strconv_uint64pow10) ∈ L) : PowAt W := by
  obtain ⟨cs, fuel, p, hv, ht⟩ := var_of h hm (g := 9) (t := 203) (by kernel_rfl) (by kernel_rfl)
  have e : (Rows.laid_internal_strconv_uint64pow10 : DataW Unit) = Lib.tabData .u64 Lib.pow10Tab := by kernel_rfl
  rw [e] at ht
  have := Lib.cells_of_tab Tryz.underlying203 Tryz.underlying185 (by kernel_rfl) (by kernel_rfl) ht
  show W.var? _ _ = _
  rw [hv, ← this]
theorem max_of_shape {W : World} (h : W.ShapedOpen Tryz.prog) : MaxAt W := Go.Proofs.cell_of_shapedOpen_int (zero := #[.int .i64 0]) (t := 3) h (of_decide_eq_true (by kernel_rfl)) (by kernel_rfl) rfl (by kernel_rfl) (by kernel_rfl) Tryz.underlying3
/-- a variable of an interface's type -/
theorem iface_of {enc : TypeId × Value → Unit} {W : World} {spare : Nat → Bool} {held : Bool} {t : TypeId} {fuel : Nat} {cs : List Value} {x : DataW Unit × List MemPlace} (hu : ∃ a, Tryz.prog.underlying t = some (.interface a)) (h : DataW.trod enc Tryz.prog W 0 spare held fuel t cs = some x) : ∃ v, cs = [v] ∧ (v = .nilIface ∨ ∃ u y, v = .iface u y) := by
  obtain ⟨a, hu⟩ := hu
  cases fuel with
  | zero => simp [DataW.trod] at h
  | succ n =>
    simp only [DataW.trod, hu] at h
    match cs, h with
    | [.nilIface], _ => exact ⟨_, rfl, Or.inl rfl⟩
    | [.iface u y], _ => exact ⟨_, rfl, Or.inr ⟨u, y, rfl⟩⟩
theorem err_of_laid {W : World} {L : List (String × DataW Unit)} (h : laidMet Tryz.prog L W) {n : String} {d : DataW Unit} (hm : (n, d) ∈ L) {g : Nat} (hg : Tryz.prog.globalNamed n = some g) (ht : (Tryz.prog.globals[g]?).map (·.type) = some 41) : ∃ v, W.cell? ⟨g, 0, none⟩ = some v ∧ (v = .nilIface ∨ ∃ u y, v = .iface u y) := by
  obtain ⟨cs, fuel, p, hv, htr⟩ := var_of h hm hg ht
  obtain ⟨v, e, hh⟩ := iface_of ⟨_, Tryz.underlying41⟩ htr
  refine ⟨v, ?_, hh⟩
  rw [World.var?_cell hg hv 0, ← Array.getElem?_toList, e]
  rfl
theorem heap_of_shape {W : World} (h : W.ShapedOpen Tryz.prog) : 12 ≤ W.heap.size := by
  obtain ⟨cs, hh, _⟩ := h.1 11 (Array.replicate 64 (.int .u8 0)) 208 (of_decide_eq_true (by kernel_rfl)) (by kernel_rfl)
  have := (Array.getElem?_eq_some_iff.1 hh).1
  omega
/-- all of it -/
structure Mem (L : List (String × DataW Unit)) : Prop where
  m1 : ("concordance/lex.marks", Rows.laid_concordance_lex_marks) ∈ L
  m2 : ("concordance/parse.noNames", Rows.laid_concordance_parse_noNames) ∈ L
  m3 : ("concordance/parse.pairs", Rows.laid_concordance_parse_pairs) ∈ L
  m4 : ("internal/strconv.uint64pow10", Rows.laid_internal_strconv_uint64pow10) ∈ L
  m5 : ("strconv.ErrSyntax", Rows.laid_strconv_ErrSyntax) ∈ L
  m6 : ("strconv.ErrRange", Rows.laid_strconv_ErrRange) ∈ L
theorem bat_of {W : World} {L : List (String × DataW Unit)} (h : laidMet Tryz.prog L W) (hm : Mem L) (hs : W.ShapedOpen Tryz.prog) : BAt W :=
  ⟨⟨⟨marks_of_laid h hm.m1, max_of_shape hs⟩, ⟨names_of_laid h hm.m2, pairs_of_laid h hm.m3, err_of_laid h hm.m5 (by kernel_rfl) (by kernel_rfl), err_of_laid h hm.m6 (by kernel_rfl) (by kernel_rfl)⟩, heap_of_shape hs⟩, ⟨pairs_of_laid h hm.m3, max_of_shape hs, pow_of_laid h hm.m4, heap_of_shape hs⟩⟩
end Go.Proofs.YtmabfbffpedfnaaGreatDoor
namespace Go.Proofs.YtmabfbffpedfnaaGreatDoor
open Go.ChangeShapes Go.WideShapes Go.ChangeAt Go.RowKit

def aqF (x : Int × Bool × Bool × Bool) : List Value := [.int .i64 x.1, .bool x.2.1, .bool x.2.2.1, .bool x.2.2.2]
def aqD (x : Int × Bool × Bool × Bool) : DataW Unit := .agg [.lit (.int .i64 x.1), .lit (.bool x.2.1), .lit (.bool x.2.2.1), .lit (.bool x.2.2.2)]
theorem cellsA : Tryz.prog.cellsOf 135 = 4 := by kernel_rfl
theorem cells4b : Tryz.prog.cellsOf 4 = 1 := by kernel_rfl
theorem asks_of {enc : TypeId × Value → Unit} {W : World} {spare : Nat → Bool} {held : Bool} {fuel : Nat} {cs : List Value} {p : List MemPlace} (h : DataW.trod enc Tryz.prog W 0 spare held fuel 136 cs = some (.agg (askL.map aqD), p)) (j : Nat) (hj : j < 6) (i : Nat) (hi : i < 4) : cs[j * 4 + i]? = (aqF (askL[j]'hj))[i]? := by
  obtain ⟨f, d, q, hd, ht⟩ := Lib.array_elem Tryz.underlying136 h j hj
  rw [cellsA] at ht
  have hd2 : d = aqD (askL[j]'hj) := by
    rw [List.getElem?_map, List.getElem?_eq_getElem (show j < askL.length from hj)] at hd
    exact (Option.some.inj hd).symm
  obtain ⟨y0, y1, y2, y3, n, e, hl, h0, h1, h2, h3⟩ := Go.Joins.trod_struct4 Tryz.underlying135 ht
  simp only [cells3, cells4b] at h0 h1 h2 h3
  obtain ⟨a0, c0, rfl, _⟩ := DataW.trod_int Tryz.underlying3 h0
  obtain ⟨a1, c1, rfl⟩ := DataW.trod_bool Tryz.underlying4 h1
  obtain ⟨a2, c2, rfl⟩ := DataW.trod_bool Tryz.underlying4 h2
  obtain ⟨a3, c3, rfl⟩ := DataW.trod_bool Tryz.underlying4 h3
  subst hd2
  have e1 := congrArg Prod.fst e
  simp only [aqD, DataW.agg.injEq, List.cons.injEq, DataW.lit.injEq, Lit.int.injEq, Lit.bool.injEq, true_and, and_true] at e1
  obtain ⟨q0, q1, q2, q3⟩ := e1
  have g0 := congrArg (·[0]?) c0
  have g1 := congrArg (·[0]?) c1
  have g2 := congrArg (·[0]?) c2
  have g3 := congrArg (·[0]?) c3
  simp [List.getElem?_drop] at g0 g1 g2 g3
  match i, hi with
  | 0, _ => rw [Nat.add_zero, g0, ← q0]; rfl
  | 1, _ => rw [g1, ← q1]; rfl
  | 2, _ => rw [g2, ← q2]; rfl
  | 3, _ => rw [g3, ← q3]; rfl
theorem gAsked : Tryz.prog.globalNamed "concordance/eval.asked" = some 0 := by kernel_rfl
theorem asked_of_laid {W : World} {L : List (String × DataW Unit)} (h : laidMet Tryz.prog L W) (hm : ("concordance/eval.asked", Rows.laid_concordance_eval_asked) ∈ L) : W.rangeAt 0 0 askCells := by
  obtain ⟨cs, fuel, p, hv, ht⟩ := var_of h hm gAsked (t := 136) (by kernel_rfl)
  have each := asks_of (cs := cs.toList) ht
  intro n v hn
  have hlen : n < 24 := by
    have := (List.getElem?_eq_some_iff.1 hn).1
    rw [show askCells = askL.flatMap aqF from rfl, flat_len (sz := 4) (fun _ => rfl)] at this
    exact this
  have e1 : n = n / 4 * 4 + n % 4 := by omega
  have h1 := each (n / 4) (by omega) (n % 4) (by omega)
  have h2 := flat_at (f := aqF) (sz := 4) (fun _ => rfl) askL (n / 4) (show n / 4 < 6 by omega) (n % 4) (by omega)
  rw [← e1] at h1 h2
  rw [Nat.zero_add, World.var?_cell gAsked hv n, ← Array.getElem?_toList, h1, ← h2]
  exact hn
theorem pf_mem : Mem Rows.planFindsRow.laid := by
  refine ⟨?_, ?_, ?_, ?_, ?_, ?_⟩ <;> simp [Rows.planFindsRow]
theorem lat_of {W : World} (h : laidMetH Tryz.prog Rows.planFindsRow.laid W) (hs : W.ShapedOpen Tryz.prog) : LAt W := by
  have h' : laidMet Tryz.prog Rows.planFindsRow.laid W := by rw [MakeChecks.laidMetH_plain _ _ _ (by kernel_rfl)] at h; exact h
  exact ⟨bat_of h' pf_mem hs, asked_of_laid h' (by simp [Rows.planFindsRow])⟩
/-- a value that came in, opened -/
theorem cells39 : Tryz.prog.cellsOf 23 = 3 := by kernel_rfl
set_option maxRecDepth 100000 in
theorem val_of {H : Type} {enc : TypeId × Value → H} {W : World} {base : Nat} {v : Value} {d : DataW H} {p : List MemPlace} {spare : Nat → Bool} {held : Bool} (hv : Value.okWide Tryz.prog W .any base 23 v) (h : DataW.Trod enc Tryz.prog W 0 spare held 23 v d p) : ∃ x : Vl, v = vv x ∧ x.t.size ≤ maxLen := by
  obtain ⟨c0, c1, c2, y0, y1, y2, m, rfl, rfl, rfl, h0, h1, h2⟩ := Go.Joins.open_agg3 Tryz.underlying23 (by kernel_rfl) cells39 hv h
  obtain ⟨k, e0, _, _⟩ := DataW.trod_int Tryz.underlying3 h0
  obtain ⟨i, e1, _, _⟩ := DataW.trod_int Tryz.underlying2 h1
  obtain ⟨s, e2, _, w2⟩ := DataW.trod_string Tryz.underlying9 h2
  simp at e0 e1 e2
  subst e0 e1 e2
  exact ⟨⟨k, i, s⟩, rfl, w2⟩
end Go.Proofs.YtmabfbffpedfnaaGreatDoor
