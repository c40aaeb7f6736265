/-
  NARROWER THAN 'FOR EVERY INPUT', by the rows' own cells (each row's printed sentence says how): WordSplits: laid · WordsPart: laid · PostingWrites: laid.
  DERIVED. THE GIVEN ROWS OF THIS SEAT. 3 by the template 'for every input the law returns true; each argument reads behind the call as it read before'; 0 by the template 'total and deterministic' (their statements: YtalfjdpdecngoaaDoorTotals.lean).
  GIVEN WITH THE SEED: the statements are not yours to turn. If you find one false, say at which input.
  Laid BY PROGRAM, IN A SANDBOX (cutbox-rows.mjs): the forced cells as the released guide's own fill.sh prints them over the translation 46e6f36b2e722605… (all of the seat's roots in one cut). By AI agents, Wed Nov 11 2026. No macro, syntax, notation, axiom, sorry.
-/
import Derived.Test.YtalfjdpdecngoaaDoorChecked
import GoSem.Claim
import GoSem.ClaimJoined
import GoSem.ClaimMapViews
import Derived.JoinedTies
import Derived.KernelRfl
namespace Go.Proofs.YtalfjdpdecngoaaDoor
/- THE CELL 'sum', in the pinned program and in every row, IS THE sha256 OF THE DUMP (.gsa) THAT YtalfjdpdecngoaaDoorProg.lean LOADS. Nothing in Lean hashes anything: it is a label: what it is worth is what the hold of that sum in a sandbox is worth. -/
noncomputable def Tryd.pinned : Pinned := { name := "ytalfjdpdecngoaadoor", sum := "46e6f36b2e72260549f03cbf90ca4dbd37e32d7f0d046433326441fb7bf28085", checked := Tryd.checked }
namespace Rows
def none {H : Type} : Left H := { results := [], args := [] }

/- WHAT THE LISTED PACKAGE-LEVEL VARIABLES READ AS WHEN THE CALL BEGINS. Each datum BY PROGRAM (the guide's laid-datum.mjs) off the statement by which the dump's own 'gosem.cut.vars' lays the variable. In a bare row this is a premise. The card (YtalfjdpdecngoaaDoorCards.lean) ties it to the program's text. -/
def laid_concordance_word_ends {H : Type} : DataW H := .agg [.agg [.lit (.string [115, 115, 101, 115]), .lit (.string [115, 115])], .agg [.lit (.string [105, 101, 115]), .lit (.string [121])], .agg [.lit (.string [115, 115]), .lit (.string [115, 115])], .agg [.lit (.string [105, 110, 103]), .lit (.string [])], .agg [.lit (.string [101, 100]), .lit (.string [])], .agg [.lit (.string [101, 115]), .lit (.string [101])], .agg [.lit (.string [115]), .lit (.string [])]]
def laid_errors_errorType {H : Type} : DataW H := .iface "internal/reflectlite.rtype" (.agg [.ptr (.lit (.string [101, 114, 114, 111, 114]))])

/-- 'concordancelaw.WordSplits': WHATEVER THE INPUT: true; the input reads as it did. -/
def wordSplitsSpec : ChangeSpec := { name := "wordSplits", fn := fun _ => fun
  | [d] => { results := [.lit (.bool true)], args := [d] }
  | _ => none }
def wordSplitsRow : OpenClaim := { program := "ytalfjdpdecngoaadoor", sum := "46e6f36b2e72260549f03cbf90ca4dbd37e32d7f0d046433326441fb7bf28085", func := "concordance/concordancelaw.WordSplits", spec := "wordSplits", named := ["concordance/word.ends"], apart := false, laid := [("concordance/word.ends", laid_concordance_word_ends)] }
def WordSplitsSaid : Prop := wordSplitsRow.holds Tryd.pinned (OpenSpec.ofChange wordSplitsSpec)

/-- ITS FALSE NEIGHBOUR: 'it returns false'. Refute it at one input. -/
def wordSplitsWrong : ChangeSpec := { name := "wordSplits", fn := fun _ => fun
  | [d] => { results := [.lit (.bool false)], args := [d] }
  | _ => none }
def WordSplitsWrongFalsely : Prop := wordSplitsRow.holds Tryd.pinned (OpenSpec.ofChange wordSplitsWrong)

/-- 'concordancekeep.WordsPart': WHATEVER THE INPUT: true; the input reads as it did. -/
def wordsPartSpec : ChangeSpec := { name := "wordsPart", fn := fun _ => fun
  | [d1, d2, d3] => { results := [.lit (.bool true)], args := [d1, d2, d3] }
  | _ => none }
def wordsPartRow : OpenClaim := { program := "ytalfjdpdecngoaadoor", sum := "46e6f36b2e72260549f03cbf90ca4dbd37e32d7f0d046433326441fb7bf28085", func := "concordance/concordancekeep.WordsPart", spec := "wordsPart", named := ["concordance/word.ends"], apart := false, laid := [("concordance/word.ends", laid_concordance_word_ends)] }
def WordsPartSaid : Prop := wordsPartRow.holds Tryd.pinned (OpenSpec.ofChange wordsPartSpec)

/-- ITS FALSE NEIGHBOUR: 'it returns false'. Refute it at one input. -/
def wordsPartWrong : ChangeSpec := { name := "wordsPart", fn := fun _ => fun
  | [d1, d2, d3] => { results := [.lit (.bool false)], args := [d1, d2, d3] }
  | _ => none }
def WordsPartWrongFalsely : Prop := wordsPartRow.holds Tryd.pinned (OpenSpec.ofChange wordsPartWrong)

/-- 'concordancelaw.PostingWrites': WHATEVER THE INPUT: true; the input reads as it did. -/
def postingWritesSpec : ChangeSpec := { name := "postingWrites", fn := fun _ => fun
  | [d1, d2] => { results := [.lit (.bool true)], args := [d1, d2] }
  | _ => none }
def postingWritesRow : OpenClaim := { program := "ytalfjdpdecngoaadoor", sum := "46e6f36b2e72260549f03cbf90ca4dbd37e32d7f0d046433326441fb7bf28085", func := "concordance/concordancelaw.PostingWrites", spec := "postingWrites", inPlace := ["internal/reflectlite.ValueOf", "(internal/reflectlite.Value).Type", "(internal/reflectlite.Value).IsNil", "internal/reflectlite.TypeOf", "(internal/reflectlite.Value).Elem", "(internal/reflectlite.Value).Set"], unfollowed := true, recurses := true, named := ["errors.errorType"], apart := false, laid := [("errors.errorType", laid_errors_errorType)] }
def PostingWritesSaid : Prop := postingWritesRow.holds Tryd.pinned (OpenSpec.ofChange postingWritesSpec)

/-- ITS FALSE NEIGHBOUR: 'it returns false'. Refute it at one input. -/
def postingWritesWrong : ChangeSpec := { name := "postingWrites", fn := fun _ => fun
  | [d1, d2] => { results := [.lit (.bool false)], args := [d1, d2] }
  | _ => none }
def PostingWritesWrongFalsely : Prop := postingWritesRow.holds Tryd.pinned (OpenSpec.ofChange postingWritesWrong)

/- THE SECOND FORM. 'bulk': how many values and letters a reading holds, each counted each time it is reached (what is shared counts as often as it is met; a slice's spare places count too). A statement '..UptoSaid' is the law's where the arguments, and the package variables that the reading takes, are together of bulk at most 1048576: NARROWER than '..Said'. Prove '..Said' where nothing that the law and all that it calls make is longer than what came in: it says more and counts as full. Else prove '..UptoSaid'. A law counts once. -/
mutual
def uptoBulk {H : Type} : DataW H → Nat
  | .lit (.string bytes) => bytes.length + 1
  | .lit _ => 1
  | .nil => 1
  | .ptr d => uptoBulk d + 1
  | .slice elems spare => uptoBulkAll elems + uptoBulkAll spare + 1
  | .agg parts => uptoBulkAll parts + 1
  | .iface _ d => uptoBulk d + 1
  | .map entries => uptoBulkEntries entries + 1
  | .held _ => 1
def uptoBulkAll {H : Type} : List (DataW H) → Nat
  | [] => 0
  | d :: r => uptoBulk d + uptoBulkAll r
def uptoBulkEntries {H : Type} : List (Lit × DataW H) → Nat
  | [] => 0
  | x :: r => uptoBulkEntry x + uptoBulkEntries r
def uptoBulkEntry {H : Type} : Lit × DataW H → Nat
  | (.string bytes, d) => bytes.length + uptoBulk d + 1
  | (_, d) => uptoBulk d + 1
 end
def uptoSmall : (H : Type) → List (DataW H) → Bool := fun _ ds => decide (uptoBulkAll ds ≤ 1048576)
def OpenSpec.upto (s : _root_.Go.ChangeSpec) : _root_.Go.OpenSpec := { _root_.Go.OpenSpec.ofChange s with cond := some uptoSmall }

/-- 'concordancelaw.WordSplits', WHERE WHAT IT READS IS OF BULK AT MOST 1048576: true; the input reads as it did. -/
def wordSplitsUptoRow : OpenClaim := { program := "ytalfjdpdecngoaadoor", sum := "46e6f36b2e72260549f03cbf90ca4dbd37e32d7f0d046433326441fb7bf28085", func := "concordance/concordancelaw.WordSplits", spec := "wordSplits", named := ["concordance/word.ends"], apart := false, laid := [("concordance/word.ends", laid_concordance_word_ends)], narrowed := true }
def WordSplitsUptoSaid : Prop := wordSplitsUptoRow.holds Tryd.pinned (OpenSpec.upto wordSplitsSpec)

/-- 'concordancekeep.WordsPart', WHERE WHAT IT READS IS OF BULK AT MOST 1048576: true; the input reads as it did. -/
def wordsPartUptoRow : OpenClaim := { program := "ytalfjdpdecngoaadoor", sum := "46e6f36b2e72260549f03cbf90ca4dbd37e32d7f0d046433326441fb7bf28085", func := "concordance/concordancekeep.WordsPart", spec := "wordsPart", named := ["concordance/word.ends"], apart := false, laid := [("concordance/word.ends", laid_concordance_word_ends)], narrowed := true }
def WordsPartUptoSaid : Prop := wordsPartUptoRow.holds Tryd.pinned (OpenSpec.upto wordsPartSpec)

/-- 'concordancelaw.PostingWrites', WHERE WHAT IT READS IS OF BULK AT MOST 1048576: true; the input reads as it did. -/
def postingWritesUptoRow : OpenClaim := { program := "ytalfjdpdecngoaadoor", sum := "46e6f36b2e72260549f03cbf90ca4dbd37e32d7f0d046433326441fb7bf28085", func := "concordance/concordancelaw.PostingWrites", spec := "postingWrites", inPlace := ["internal/reflectlite.ValueOf", "(internal/reflectlite.Value).Type", "(internal/reflectlite.Value).IsNil", "internal/reflectlite.TypeOf", "(internal/reflectlite.Value).Elem", "(internal/reflectlite.Value).Set"], unfollowed := true, recurses := true, named := ["errors.errorType"], apart := false, laid := [("errors.errorType", laid_errors_errorType)], narrowed := true }
def PostingWritesUptoSaid : Prop := postingWritesUptoRow.holds Tryd.pinned (OpenSpec.upto postingWritesSpec)

end Rows
end Go.Proofs.YtalfjdpdecngoaaDoor
