/-
  No cell of these rows narrows 'for every input' (looked for: loops, veiled, ifaces, maps, wideKeys, modest, calm, conditions, laid).
  DERIVED. THE GIVEN ROWS OF THIS SEAT. 3 by the template 'for every input the law returns true; each argument reads behind the call as it read before'; 0 by the template 'total and deterministic' (their statements: YtjcddeoihjppaaaTotals.lean).
  GIVEN WITH THE SEED: the statements are not yours to turn. If you find one false, say at which input.
  Laid BY PROGRAM, IN A SANDBOX (cutbox-rows.mjs): the forced cells as the released guide's own fill.sh prints them over the translation 11a0a0a3a7352802… (all of the seat's roots in one cut). By AI agents, Wed Nov 11 2026. No macro, syntax, notation, axiom, sorry.
-/
import Derived.Test.YtjcddeoihjppaaaChecked
import GoSem.Claim
import GoSem.ClaimJoined
import GoSem.ClaimMapViews
import Derived.JoinedTies
import Derived.KernelRfl
namespace Go.Proofs.Ytjcddeoihjppaaa
/- THE CELL 'sum', in the pinned program and in every row, IS THE sha256 OF THE DUMP (.gsa) THAT YtjcddeoihjppaaaProg.lean LOADS. Nothing in Lean hashes anything: it is a label: what it is worth is what the hold of that sum in a sandbox is worth. -/
noncomputable def Try.pinned : Pinned := { name := "ytjcddeoihjppaaa", sum := "11a0a0a3a7352802dd678f264276a3d5161c981774131598f484221046bc6f20", checked := Try.checked }
namespace Rows
def none {H : Type} : Left H := { results := [], args := [] }

/-- 'concordancekeep.PagerBacks': WHATEVER THE INPUT: true; the input reads as it did. -/
def pagerBacksSpec : ChangeSpec := { name := "pagerBacks", fn := fun _ => fun
  | [d1, d2, d3] => { results := [.lit (.bool true)], args := [d1, d2, d3] }
  | _ => none }
def pagerBacksRow : OpenClaim := { program := "ytjcddeoihjppaaa", sum := "11a0a0a3a7352802dd678f264276a3d5161c981774131598f484221046bc6f20", func := "concordance/concordancekeep.PagerBacks", spec := "pagerBacks", inPlace := ["internal/abi.NoEscape", "internal/bytealg.MakeNoZero", "maps.clone"], unfollowed := true, recurses := true, apart := false }
def PagerBacksSaid : Prop := pagerBacksRow.holds Try.pinned (OpenSpec.ofChange pagerBacksSpec)

/-- ITS FALSE NEIGHBOUR: 'it returns false'. Refute it at one input. -/
def pagerBacksWrong : ChangeSpec := { name := "pagerBacks", fn := fun _ => fun
  | [d1, d2, d3] => { results := [.lit (.bool false)], args := [d1, d2, d3] }
  | _ => none }
def PagerBacksWrongFalsely : Prop := pagerBacksRow.holds Try.pinned (OpenSpec.ofChange pagerBacksWrong)

/-- 'concordancekeep.TreeLean': WHATEVER THE INPUT: true; the input reads as it did. -/
def treeLeanSpec : ChangeSpec := { name := "treeLean", fn := fun _ => fun
  | [d1, d2, d3] => { results := [.lit (.bool true)], args := [d1, d2, d3] }
  | _ => none }
def treeLeanRow : OpenClaim := { program := "ytjcddeoihjppaaa", sum := "11a0a0a3a7352802dd678f264276a3d5161c981774131598f484221046bc6f20", func := "concordance/concordancekeep.TreeLean", spec := "treeLean", inPlace := ["internal/abi.NoEscape", "internal/bytealg.MakeNoZero", "slices.overlaps[string]"], unfollowed := true, recurses := true, apart := false }
def TreeLeanSaid : Prop := treeLeanRow.holds Try.pinned (OpenSpec.ofChange treeLeanSpec)

/-- ITS FALSE NEIGHBOUR: 'it returns false'. Refute it at one input. -/
def treeLeanWrong : ChangeSpec := { name := "treeLean", fn := fun _ => fun
  | [d1, d2, d3] => { results := [.lit (.bool false)], args := [d1, d2, d3] }
  | _ => none }
def TreeLeanWrongFalsely : Prop := treeLeanRow.holds Try.pinned (OpenSpec.ofChange treeLeanWrong)

/-- 'concordancekeep.TreesApart': WHATEVER THE INPUT: true; the input reads as it did. -/
def treesApartSpec : ChangeSpec := { name := "treesApart", fn := fun _ => fun
  | [d1, d2] => { results := [.lit (.bool true)], args := [d1, d2] }
  | _ => none }
def treesApartRow : OpenClaim := { program := "ytjcddeoihjppaaa", sum := "11a0a0a3a7352802dd678f264276a3d5161c981774131598f484221046bc6f20", func := "concordance/concordancekeep.TreesApart", spec := "treesApart", inPlace := ["internal/abi.NoEscape", "internal/bytealg.MakeNoZero", "slices.overlaps[string]", "maps.clone"], unfollowed := true, recurses := true, apart := false }
def TreesApartSaid : Prop := treesApartRow.holds Try.pinned (OpenSpec.ofChange treesApartSpec)

/-- ITS FALSE NEIGHBOUR: 'it returns false'. Refute it at one input. -/
def treesApartWrong : ChangeSpec := { name := "treesApart", fn := fun _ => fun
  | [d1, d2] => { results := [.lit (.bool false)], args := [d1, d2] }
  | _ => none }
def TreesApartWrongFalsely : Prop := treesApartRow.holds Try.pinned (OpenSpec.ofChange treesApartWrong)

/- THE SECOND FORM. 'bulk': how many values and letters a reading holds, each counted each time it is reached (what is shared counts as often as it is met; a slice's spare places count too). A statement '..UptoSaid' is the law's where the arguments, and the package variables that the reading takes, are together of bulk at most 1048576: NARROWER than '..Said'. Prove '..Said' where nothing that the law and all that it calls make is longer than what came in: it says more and counts as full. Else prove '..UptoSaid'. A law counts once. -/
mutual
def uptoBulk {H : Type} : DataW H → Nat
  | .lit (.string bytes) => bytes.length + 1
  | .lit _ => 1
  | .nil => 1
  | .ptr d => uptoBulk d + 1
  | .slice elems spare => uptoBulkAll elems + uptoBulkAll spare + 1
  | .agg parts => uptoBulkAll parts + 1
  | .iface _ d => uptoBulk d + 1
  | .map entries => uptoBulkEntries entries + 1
  | .held _ => 1
def uptoBulkAll {H : Type} : List (DataW H) → Nat
  | [] => 0
  | d :: r => uptoBulk d + uptoBulkAll r
def uptoBulkEntries {H : Type} : List (Lit × DataW H) → Nat
  | [] => 0
  | x :: r => uptoBulkEntry x + uptoBulkEntries r
def uptoBulkEntry {H : Type} : Lit × DataW H → Nat
  | (.string bytes, d) => bytes.length + uptoBulk d + 1
  | (_, d) => uptoBulk d + 1
 end
def uptoSmall : (H : Type) → List (DataW H) → Bool := fun _ ds => decide (uptoBulkAll ds ≤ 1048576)
def OpenSpec.upto (s : _root_.Go.ChangeSpec) : _root_.Go.OpenSpec := { _root_.Go.OpenSpec.ofChange s with cond := some uptoSmall }

/-- 'concordancekeep.PagerBacks', WHERE WHAT IT READS IS OF BULK AT MOST 1048576: true; the input reads as it did. -/
def pagerBacksUptoRow : OpenClaim := { program := "ytjcddeoihjppaaa", sum := "11a0a0a3a7352802dd678f264276a3d5161c981774131598f484221046bc6f20", func := "concordance/concordancekeep.PagerBacks", spec := "pagerBacks", inPlace := ["internal/abi.NoEscape", "internal/bytealg.MakeNoZero", "maps.clone"], unfollowed := true, recurses := true, apart := false, narrowed := true }
def PagerBacksUptoSaid : Prop := pagerBacksUptoRow.holds Try.pinned (OpenSpec.upto pagerBacksSpec)

/-- 'concordancekeep.TreeLean', WHERE WHAT IT READS IS OF BULK AT MOST 1048576: true; the input reads as it did. -/
def treeLeanUptoRow : OpenClaim := { program := "ytjcddeoihjppaaa", sum := "11a0a0a3a7352802dd678f264276a3d5161c981774131598f484221046bc6f20", func := "concordance/concordancekeep.TreeLean", spec := "treeLean", inPlace := ["internal/abi.NoEscape", "internal/bytealg.MakeNoZero", "slices.overlaps[string]"], unfollowed := true, recurses := true, apart := false, narrowed := true }
def TreeLeanUptoSaid : Prop := treeLeanUptoRow.holds Try.pinned (OpenSpec.upto treeLeanSpec)

/-- 'concordancekeep.TreesApart', WHERE WHAT IT READS IS OF BULK AT MOST 1048576: true; the input reads as it did. -/
def treesApartUptoRow : OpenClaim := { program := "ytjcddeoihjppaaa", sum := "11a0a0a3a7352802dd678f264276a3d5161c981774131598f484221046bc6f20", func := "concordance/concordancekeep.TreesApart", spec := "treesApart", inPlace := ["internal/abi.NoEscape", "internal/bytealg.MakeNoZero", "slices.overlaps[string]", "maps.clone"], unfollowed := true, recurses := true, apart := false, narrowed := true }
def TreesApartUptoSaid : Prop := treesApartUptoRow.holds Try.pinned (OpenSpec.upto treesApartSpec)

end Rows
end Go.Proofs.Ytjcddeoihjppaaa
