/-
  No cell of these rows narrows 'for every input' (looked for: loops, veiled, ifaces, maps, wideKeys, modest, calm, conditions, laid).
  DERIVED. THE GIVEN ROWS OF THIS SEAT. 12 by the template 'for every input the law returns true; each argument reads behind the call as it read before'; 0 by the template 'total and deterministic' (their statements: YteogogcjndfkoaaTotals.lean).
  GIVEN WITH THE SEED: the statements are not yours to turn. If you find one false, say at which input.
  Laid BY PROGRAM, IN A SANDBOX (cutbox-rows.mjs): the forced cells as the released guide's own fill.sh prints them over the translation 7cf2df361c4df83d… (all of the seat's roots in one cut). By AI agents, Wed Nov 11 2026. No macro, syntax, notation, axiom, sorry.
-/
import Derived.Test.YteogogcjndfkoaaChecked
import GoSem.Claim
import GoSem.ClaimJoined
import GoSem.ClaimMapViews
import Derived.JoinedTies
import Derived.KernelRfl
namespace Go.Proofs.Yteogogcjndfkoaa
/- THE CELL 'sum', in the pinned program and in every row, IS THE sha256 OF THE DUMP (.gsa) THAT YteogogcjndfkoaaProg.lean LOADS. Nothing in Lean hashes anything: it is a label: what it is worth is what the hold of that sum in a sandbox is worth. -/
noncomputable def Try.pinned : Pinned := { name := "yteogogcjndfkoaa", sum := "7cf2df361c4df83d033016576745ae83340b266bc6c557690e0981f2854ff351", checked := Try.checked }
namespace Rows
def none {H : Type} : Left H := { results := [], args := [] }

/-- 'laws.FnExactIsList': WHATEVER THE INPUT: true; the input reads as it did. -/
def fnExactIsListSpec : ChangeSpec := { name := "fnExactIsList", fn := fun _ => fun
  | [d] => { results := [.lit (.bool true)], args := [d] }
  | _ => none }
def fnExactIsListRow : OpenClaim := { program := "yteogogcjndfkoaa", sum := "7cf2df361c4df83d033016576745ae83340b266bc6c557690e0981f2854ff351", func := "loop.example/g01317/laws.FnExactIsList", spec := "fnExactIsList", inPlace := ["math.Float64bits", "math.Float64frombits"], apart := false }
def FnExactIsListSaid : Prop := fnExactIsListRow.holds Try.pinned (OpenSpec.ofChange fnExactIsListSpec)

/-- ITS FALSE NEIGHBOUR: 'it returns false'. Refute it at one input. -/
def fnExactIsListWrong : ChangeSpec := { name := "fnExactIsList", fn := fun _ => fun
  | [d] => { results := [.lit (.bool false)], args := [d] }
  | _ => none }
def FnExactIsListWrongFalsely : Prop := fnExactIsListRow.holds Try.pinned (OpenSpec.ofChange fnExactIsListWrong)

/-- 'laws.FnExactAreIntegers': WHATEVER THE INPUT: true; the input reads as it did. -/
def fnExactAreIntegersSpec : ChangeSpec := { name := "fnExactAreIntegers", fn := fun _ => fun
  | [d] => { results := [.lit (.bool true)], args := [d] }
  | _ => none }
def fnExactAreIntegersRow : OpenClaim := { program := "yteogogcjndfkoaa", sum := "7cf2df361c4df83d033016576745ae83340b266bc6c557690e0981f2854ff351", func := "loop.example/g01317/laws.FnExactAreIntegers", spec := "fnExactAreIntegers", apart := false }
def FnExactAreIntegersSaid : Prop := fnExactAreIntegersRow.holds Try.pinned (OpenSpec.ofChange fnExactAreIntegersSpec)

/-- ITS FALSE NEIGHBOUR: 'it returns false'. Refute it at one input. -/
def fnExactAreIntegersWrong : ChangeSpec := { name := "fnExactAreIntegers", fn := fun _ => fun
  | [d] => { results := [.lit (.bool false)], args := [d] }
  | _ => none }
def FnExactAreIntegersWrongFalsely : Prop := fnExactAreIntegersRow.holds Try.pinned (OpenSpec.ofChange fnExactAreIntegersWrong)

/-- 'laws.FnExactMirrorAt': WHATEVER THE INPUT: true; the input reads as it did. -/
def fnExactMirrorAtSpec : ChangeSpec := { name := "fnExactMirrorAt", fn := fun _ => fun
  | [d1, d2] => { results := [.lit (.bool true)], args := [d1, d2] }
  | _ => none }
def fnExactMirrorAtRow : OpenClaim := { program := "yteogogcjndfkoaa", sum := "7cf2df361c4df83d033016576745ae83340b266bc6c557690e0981f2854ff351", func := "loop.example/g01317/laws.FnExactMirrorAt", spec := "fnExactMirrorAt", apart := false }
def FnExactMirrorAtSaid : Prop := fnExactMirrorAtRow.holds Try.pinned (OpenSpec.ofChange fnExactMirrorAtSpec)

/-- ITS FALSE NEIGHBOUR: 'it returns false'. Refute it at one input. -/
def fnExactMirrorAtWrong : ChangeSpec := { name := "fnExactMirrorAt", fn := fun _ => fun
  | [d1, d2] => { results := [.lit (.bool false)], args := [d1, d2] }
  | _ => none }
def FnExactMirrorAtWrongFalsely : Prop := fnExactMirrorAtRow.holds Try.pinned (OpenSpec.ofChange fnExactMirrorAtWrong)

/-- 'laws.FnExactSplitIntegers': WHATEVER THE INPUT: true; the input reads as it did. -/
def fnExactSplitIntegersSpec : ChangeSpec := { name := "fnExactSplitIntegers", fn := fun _ => fun
  | [d] => { results := [.lit (.bool true)], args := [d] }
  | _ => none }
def fnExactSplitIntegersRow : OpenClaim := { program := "yteogogcjndfkoaa", sum := "7cf2df361c4df83d033016576745ae83340b266bc6c557690e0981f2854ff351", func := "loop.example/g01317/laws.FnExactSplitIntegers", spec := "fnExactSplitIntegers", apart := false }
def FnExactSplitIntegersSaid : Prop := fnExactSplitIntegersRow.holds Try.pinned (OpenSpec.ofChange fnExactSplitIntegersSpec)

/-- ITS FALSE NEIGHBOUR: 'it returns false'. Refute it at one input. -/
def fnExactSplitIntegersWrong : ChangeSpec := { name := "fnExactSplitIntegers", fn := fun _ => fun
  | [d] => { results := [.lit (.bool false)], args := [d] }
  | _ => none }
def FnExactSplitIntegersWrongFalsely : Prop := fnExactSplitIntegersRow.holds Try.pinned (OpenSpec.ofChange fnExactSplitIntegersWrong)

/-- 'laws.FnExactLiftIntegers': WHATEVER THE INPUT: true; the input reads as it did. -/
def fnExactLiftIntegersSpec : ChangeSpec := { name := "fnExactLiftIntegers", fn := fun _ => fun
  | [d1, d2] => { results := [.lit (.bool true)], args := [d1, d2] }
  | _ => none }
def fnExactLiftIntegersRow : OpenClaim := { program := "yteogogcjndfkoaa", sum := "7cf2df361c4df83d033016576745ae83340b266bc6c557690e0981f2854ff351", func := "loop.example/g01317/laws.FnExactLiftIntegers", spec := "fnExactLiftIntegers", unfollowed := true, recurses := true, apart := false }
def FnExactLiftIntegersSaid : Prop := fnExactLiftIntegersRow.holds Try.pinned (OpenSpec.ofChange fnExactLiftIntegersSpec)

/-- ITS FALSE NEIGHBOUR: 'it returns false'. Refute it at one input. -/
def fnExactLiftIntegersWrong : ChangeSpec := { name := "fnExactLiftIntegers", fn := fun _ => fun
  | [d1, d2] => { results := [.lit (.bool false)], args := [d1, d2] }
  | _ => none }
def FnExactLiftIntegersWrongFalsely : Prop := fnExactLiftIntegersRow.holds Try.pinned (OpenSpec.ofChange fnExactLiftIntegersWrong)

/-- 'laws.FnExactDropIntegers': WHATEVER THE INPUT: true; the input reads as it did. -/
def fnExactDropIntegersSpec : ChangeSpec := { name := "fnExactDropIntegers", fn := fun _ => fun
  | [d1, d2, d3] => { results := [.lit (.bool true)], args := [d1, d2, d3] }
  | _ => none }
def fnExactDropIntegersRow : OpenClaim := { program := "yteogogcjndfkoaa", sum := "7cf2df361c4df83d033016576745ae83340b266bc6c557690e0981f2854ff351", func := "loop.example/g01317/laws.FnExactDropIntegers", spec := "fnExactDropIntegers", unfollowed := true, recurses := true, apart := false }
def FnExactDropIntegersSaid : Prop := fnExactDropIntegersRow.holds Try.pinned (OpenSpec.ofChange fnExactDropIntegersSpec)

/-- ITS FALSE NEIGHBOUR: 'it returns false'. Refute it at one input. -/
def fnExactDropIntegersWrong : ChangeSpec := { name := "fnExactDropIntegers", fn := fun _ => fun
  | [d1, d2, d3] => { results := [.lit (.bool false)], args := [d1, d2, d3] }
  | _ => none }
def FnExactDropIntegersWrongFalsely : Prop := fnExactDropIntegersRow.holds Try.pinned (OpenSpec.ofChange fnExactDropIntegersWrong)

/-- 'laws.FnExactBandSizes': WHATEVER THE INPUT: true; the input reads as it did. -/
def fnExactBandSizesSpec : ChangeSpec := { name := "fnExactBandSizes", fn := fun _ => fun
  | [d1, d2] => { results := [.lit (.bool true)], args := [d1, d2] }
  | _ => none }
def fnExactBandSizesRow : OpenClaim := { program := "yteogogcjndfkoaa", sum := "7cf2df361c4df83d033016576745ae83340b266bc6c557690e0981f2854ff351", func := "loop.example/g01317/laws.FnExactBandSizes", spec := "fnExactBandSizes", apart := false }
def FnExactBandSizesSaid : Prop := fnExactBandSizesRow.holds Try.pinned (OpenSpec.ofChange fnExactBandSizesSpec)

/-- ITS FALSE NEIGHBOUR: 'it returns false'. Refute it at one input. -/
def fnExactBandSizesWrong : ChangeSpec := { name := "fnExactBandSizes", fn := fun _ => fun
  | [d1, d2] => { results := [.lit (.bool false)], args := [d1, d2] }
  | _ => none }
def FnExactBandSizesWrongFalsely : Prop := fnExactBandSizesRow.holds Try.pinned (OpenSpec.ofChange fnExactBandSizesWrong)

/-- 'laws.FnExactCoverOf': WHATEVER THE INPUT: true; the input reads as it did. -/
def fnExactCoverOfSpec : ChangeSpec := { name := "fnExactCoverOf", fn := fun _ => fun
  | [d1, d2, d3, d4] => { results := [.lit (.bool true)], args := [d1, d2, d3, d4] }
  | _ => none }
def fnExactCoverOfRow : OpenClaim := { program := "yteogogcjndfkoaa", sum := "7cf2df361c4df83d033016576745ae83340b266bc6c557690e0981f2854ff351", func := "loop.example/g01317/laws.FnExactCoverOf", spec := "fnExactCoverOf", apart := false }
def FnExactCoverOfSaid : Prop := fnExactCoverOfRow.holds Try.pinned (OpenSpec.ofChange fnExactCoverOfSpec)

/-- ITS FALSE NEIGHBOUR: 'it returns false'. Refute it at one input. -/
def fnExactCoverOfWrong : ChangeSpec := { name := "fnExactCoverOf", fn := fun _ => fun
  | [d1, d2, d3, d4] => { results := [.lit (.bool false)], args := [d1, d2, d3, d4] }
  | _ => none }
def FnExactCoverOfWrongFalsely : Prop := fnExactCoverOfRow.holds Try.pinned (OpenSpec.ofChange fnExactCoverOfWrong)

/-- 'laws.FnExactValidScheme': WHATEVER THE INPUT: true; the input reads as it did. -/
def fnExactValidSchemeSpec : ChangeSpec := { name := "fnExactValidScheme", fn := fun _ => fun
  | [d] => { results := [.lit (.bool true)], args := [d] }
  | _ => none }
def fnExactValidSchemeRow : OpenClaim := { program := "yteogogcjndfkoaa", sum := "7cf2df361c4df83d033016576745ae83340b266bc6c557690e0981f2854ff351", func := "loop.example/g01317/laws.FnExactValidScheme", spec := "fnExactValidScheme", inPlace := ["math.Float64bits", "math.Float64frombits"], apart := false }
def FnExactValidSchemeSaid : Prop := fnExactValidSchemeRow.holds Try.pinned (OpenSpec.ofChange fnExactValidSchemeSpec)

/-- ITS FALSE NEIGHBOUR: 'it returns false'. Refute it at one input. -/
def fnExactValidSchemeWrong : ChangeSpec := { name := "fnExactValidScheme", fn := fun _ => fun
  | [d] => { results := [.lit (.bool false)], args := [d] }
  | _ => none }
def FnExactValidSchemeWrongFalsely : Prop := fnExactValidSchemeRow.holds Try.pinned (OpenSpec.ofChange fnExactValidSchemeWrong)

/-- 'laws.FnExactSameScheme': WHATEVER THE INPUT: true; the input reads as it did. -/
def fnExactSameSchemeSpec : ChangeSpec := { name := "fnExactSameScheme", fn := fun _ => fun
  | [d1, d2] => { results := [.lit (.bool true)], args := [d1, d2] }
  | _ => none }
def fnExactSameSchemeRow : OpenClaim := { program := "yteogogcjndfkoaa", sum := "7cf2df361c4df83d033016576745ae83340b266bc6c557690e0981f2854ff351", func := "loop.example/g01317/laws.FnExactSameScheme", spec := "fnExactSameScheme", inPlace := ["math.Float32bits"], unfollowed := true, recurses := true, apart := false }
def FnExactSameSchemeSaid : Prop := fnExactSameSchemeRow.holds Try.pinned (OpenSpec.ofChange fnExactSameSchemeSpec)

/-- ITS FALSE NEIGHBOUR: 'it returns false'. Refute it at one input. -/
def fnExactSameSchemeWrong : ChangeSpec := { name := "fnExactSameScheme", fn := fun _ => fun
  | [d1, d2] => { results := [.lit (.bool false)], args := [d1, d2] }
  | _ => none }
def FnExactSameSchemeWrongFalsely : Prop := fnExactSameSchemeRow.holds Try.pinned (OpenSpec.ofChange fnExactSameSchemeWrong)

/-- 'laws.FnExactLinesScheme': WHATEVER THE INPUT: true; the input reads as it did. -/
def fnExactLinesSchemeSpec : ChangeSpec := { name := "fnExactLinesScheme", fn := fun _ => fun
  | [] => { results := [.lit (.bool true)], args := [] }
  | _ => none }
def fnExactLinesSchemeRow : OpenClaim := { program := "yteogogcjndfkoaa", sum := "7cf2df361c4df83d033016576745ae83340b266bc6c557690e0981f2854ff351", func := "loop.example/g01317/laws.FnExactLinesScheme", spec := "fnExactLinesScheme", apart := false }
def FnExactLinesSchemeSaid : Prop := fnExactLinesSchemeRow.holds Try.pinned (OpenSpec.ofChange fnExactLinesSchemeSpec)

/-- ITS FALSE NEIGHBOUR: 'it returns false'. Refute it at one input. -/
def fnExactLinesSchemeWrong : ChangeSpec := { name := "fnExactLinesScheme", fn := fun _ => fun
  | [] => { results := [.lit (.bool false)], args := [] }
  | _ => none }
def FnExactLinesSchemeWrongFalsely : Prop := fnExactLinesSchemeRow.holds Try.pinned (OpenSpec.ofChange fnExactLinesSchemeWrong)

/-- 'laws.FnExactNineScheme': WHATEVER THE INPUT: true; the input reads as it did. -/
def fnExactNineSchemeSpec : ChangeSpec := { name := "fnExactNineScheme", fn := fun _ => fun
  | [] => { results := [.lit (.bool true)], args := [] }
  | _ => none }
def fnExactNineSchemeRow : OpenClaim := { program := "yteogogcjndfkoaa", sum := "7cf2df361c4df83d033016576745ae83340b266bc6c557690e0981f2854ff351", func := "loop.example/g01317/laws.FnExactNineScheme", spec := "fnExactNineScheme", apart := false }
def FnExactNineSchemeSaid : Prop := fnExactNineSchemeRow.holds Try.pinned (OpenSpec.ofChange fnExactNineSchemeSpec)

/-- ITS FALSE NEIGHBOUR: 'it returns false'. Refute it at one input. -/
def fnExactNineSchemeWrong : ChangeSpec := { name := "fnExactNineScheme", fn := fun _ => fun
  | [] => { results := [.lit (.bool false)], args := [] }
  | _ => none }
def FnExactNineSchemeWrongFalsely : Prop := fnExactNineSchemeRow.holds Try.pinned (OpenSpec.ofChange fnExactNineSchemeWrong)

/- THE SECOND FORM. 'bulk': how many values and letters a reading holds, each counted each time it is reached (what is shared counts as often as it is met; a slice's spare places count too). A statement '..UptoSaid' is the law's where the arguments, and the package variables that the reading takes, are together of bulk at most 1048576: NARROWER than '..Said'. Prove '..Said' where nothing that the law and all that it calls make is longer than what came in: it says more and counts as full. Else prove '..UptoSaid'. A law counts once. -/
mutual
def uptoBulk {H : Type} : DataW H → Nat
  | .lit (.string bytes) => bytes.length + 1
  | .lit _ => 1
  | .nil => 1
  | .ptr d => uptoBulk d + 1
  | .slice elems spare => uptoBulkAll elems + uptoBulkAll spare + 1
  | .agg parts => uptoBulkAll parts + 1
  | .iface _ d => uptoBulk d + 1
  | .map entries => uptoBulkEntries entries + 1
  | .held _ => 1
def uptoBulkAll {H : Type} : List (DataW H) → Nat
  | [] => 0
  | d :: r => uptoBulk d + uptoBulkAll r
def uptoBulkEntries {H : Type} : List (Lit × DataW H) → Nat
  | [] => 0
  | x :: r => uptoBulkEntry x + uptoBulkEntries r
def uptoBulkEntry {H : Type} : Lit × DataW H → Nat
  | (.string bytes, d) => bytes.length + uptoBulk d + 1
  | (_, d) => uptoBulk d + 1
 end
def uptoSmall : (H : Type) → List (DataW H) → Bool := fun _ ds => decide (uptoBulkAll ds ≤ 1048576)
def OpenSpec.upto (s : _root_.Go.ChangeSpec) : _root_.Go.OpenSpec := { _root_.Go.OpenSpec.ofChange s with cond := some uptoSmall }

/-- 'laws.FnExactIsList', WHERE WHAT IT READS IS OF BULK AT MOST 1048576: true; the input reads as it did. -/
def fnExactIsListUptoRow : OpenClaim := { program := "yteogogcjndfkoaa", sum := "7cf2df361c4df83d033016576745ae83340b266bc6c557690e0981f2854ff351", func := "loop.example/g01317/laws.FnExactIsList", spec := "fnExactIsList", inPlace := ["math.Float64bits", "math.Float64frombits"], apart := false, narrowed := true }
def FnExactIsListUptoSaid : Prop := fnExactIsListUptoRow.holds Try.pinned (OpenSpec.upto fnExactIsListSpec)

/-- 'laws.FnExactAreIntegers', WHERE WHAT IT READS IS OF BULK AT MOST 1048576: true; the input reads as it did. -/
def fnExactAreIntegersUptoRow : OpenClaim := { program := "yteogogcjndfkoaa", sum := "7cf2df361c4df83d033016576745ae83340b266bc6c557690e0981f2854ff351", func := "loop.example/g01317/laws.FnExactAreIntegers", spec := "fnExactAreIntegers", apart := false, narrowed := true }
def FnExactAreIntegersUptoSaid : Prop := fnExactAreIntegersUptoRow.holds Try.pinned (OpenSpec.upto fnExactAreIntegersSpec)

/-- 'laws.FnExactMirrorAt', WHERE WHAT IT READS IS OF BULK AT MOST 1048576: true; the input reads as it did. -/
def fnExactMirrorAtUptoRow : OpenClaim := { program := "yteogogcjndfkoaa", sum := "7cf2df361c4df83d033016576745ae83340b266bc6c557690e0981f2854ff351", func := "loop.example/g01317/laws.FnExactMirrorAt", spec := "fnExactMirrorAt", apart := false, narrowed := true }
def FnExactMirrorAtUptoSaid : Prop := fnExactMirrorAtUptoRow.holds Try.pinned (OpenSpec.upto fnExactMirrorAtSpec)

/-- 'laws.FnExactSplitIntegers', WHERE WHAT IT READS IS OF BULK AT MOST 1048576: true; the input reads as it did. -/
def fnExactSplitIntegersUptoRow : OpenClaim := { program := "yteogogcjndfkoaa", sum := "7cf2df361c4df83d033016576745ae83340b266bc6c557690e0981f2854ff351", func := "loop.example/g01317/laws.FnExactSplitIntegers", spec := "fnExactSplitIntegers", apart := false, narrowed := true }
def FnExactSplitIntegersUptoSaid : Prop := fnExactSplitIntegersUptoRow.holds Try.pinned (OpenSpec.upto fnExactSplitIntegersSpec)

/-- 'laws.FnExactLiftIntegers', WHERE WHAT IT READS IS OF BULK AT MOST 1048576: true; the input reads as it did. -/
def fnExactLiftIntegersUptoRow : OpenClaim := { program := "yteogogcjndfkoaa", sum := "7cf2df361c4df83d033016576745ae83340b266bc6c557690e0981f2854ff351", func := "loop.example/g01317/laws.FnExactLiftIntegers", spec := "fnExactLiftIntegers", unfollowed := true, recurses := true, apart := false, narrowed := true }
def FnExactLiftIntegersUptoSaid : Prop := fnExactLiftIntegersUptoRow.holds Try.pinned (OpenSpec.upto fnExactLiftIntegersSpec)

/-- 'laws.FnExactDropIntegers', WHERE WHAT IT READS IS OF BULK AT MOST 1048576: true; the input reads as it did. -/
def fnExactDropIntegersUptoRow : OpenClaim := { program := "yteogogcjndfkoaa", sum := "7cf2df361c4df83d033016576745ae83340b266bc6c557690e0981f2854ff351", func := "loop.example/g01317/laws.FnExactDropIntegers", spec := "fnExactDropIntegers", unfollowed := true, recurses := true, apart := false, narrowed := true }
def FnExactDropIntegersUptoSaid : Prop := fnExactDropIntegersUptoRow.holds Try.pinned (OpenSpec.upto fnExactDropIntegersSpec)

/-- 'laws.FnExactBandSizes', WHERE WHAT IT READS IS OF BULK AT MOST 1048576: true; the input reads as it did. -/
def fnExactBandSizesUptoRow : OpenClaim := { program := "yteogogcjndfkoaa", sum := "7cf2df361c4df83d033016576745ae83340b266bc6c557690e0981f2854ff351", func := "loop.example/g01317/laws.FnExactBandSizes", spec := "fnExactBandSizes", apart := false, narrowed := true }
def FnExactBandSizesUptoSaid : Prop := fnExactBandSizesUptoRow.holds Try.pinned (OpenSpec.upto fnExactBandSizesSpec)

/-- 'laws.FnExactCoverOf', WHERE WHAT IT READS IS OF BULK AT MOST 1048576: true; the input reads as it did. -/
def fnExactCoverOfUptoRow : OpenClaim := { program := "yteogogcjndfkoaa", sum := "7cf2df361c4df83d033016576745ae83340b266bc6c557690e0981f2854ff351", func := "loop.example/g01317/laws.FnExactCoverOf", spec := "fnExactCoverOf", apart := false, narrowed := true }
def FnExactCoverOfUptoSaid : Prop := fnExactCoverOfUptoRow.holds Try.pinned (OpenSpec.upto fnExactCoverOfSpec)

/-- 'laws.FnExactValidScheme', WHERE WHAT IT READS IS OF BULK AT MOST 1048576: true; the input reads as it did. -/
def fnExactValidSchemeUptoRow : OpenClaim := { program := "yteogogcjndfkoaa", sum := "7cf2df361c4df83d033016576745ae83340b266bc6c557690e0981f2854ff351", func := "loop.example/g01317/laws.FnExactValidScheme", spec := "fnExactValidScheme", inPlace := ["math.Float64bits", "math.Float64frombits"], apart := false, narrowed := true }
def FnExactValidSchemeUptoSaid : Prop := fnExactValidSchemeUptoRow.holds Try.pinned (OpenSpec.upto fnExactValidSchemeSpec)

/-- 'laws.FnExactSameScheme', WHERE WHAT IT READS IS OF BULK AT MOST 1048576: true; the input reads as it did. -/
def fnExactSameSchemeUptoRow : OpenClaim := { program := "yteogogcjndfkoaa", sum := "7cf2df361c4df83d033016576745ae83340b266bc6c557690e0981f2854ff351", func := "loop.example/g01317/laws.FnExactSameScheme", spec := "fnExactSameScheme", inPlace := ["math.Float32bits"], unfollowed := true, recurses := true, apart := false, narrowed := true }
def FnExactSameSchemeUptoSaid : Prop := fnExactSameSchemeUptoRow.holds Try.pinned (OpenSpec.upto fnExactSameSchemeSpec)

/-- 'laws.FnExactLinesScheme', WHERE WHAT IT READS IS OF BULK AT MOST 1048576: true; the input reads as it did. -/
def fnExactLinesSchemeUptoRow : OpenClaim := { program := "yteogogcjndfkoaa", sum := "7cf2df361c4df83d033016576745ae83340b266bc6c557690e0981f2854ff351", func := "loop.example/g01317/laws.FnExactLinesScheme", spec := "fnExactLinesScheme", apart := false, narrowed := true }
def FnExactLinesSchemeUptoSaid : Prop := fnExactLinesSchemeUptoRow.holds Try.pinned (OpenSpec.upto fnExactLinesSchemeSpec)

/-- 'laws.FnExactNineScheme', WHERE WHAT IT READS IS OF BULK AT MOST 1048576: true; the input reads as it did. -/
def fnExactNineSchemeUptoRow : OpenClaim := { program := "yteogogcjndfkoaa", sum := "7cf2df361c4df83d033016576745ae83340b266bc6c557690e0981f2854ff351", func := "loop.example/g01317/laws.FnExactNineScheme", spec := "fnExactNineScheme", apart := false, narrowed := true }
def FnExactNineSchemeUptoSaid : Prop := fnExactNineSchemeUptoRow.holds Try.pinned (OpenSpec.upto fnExactNineSchemeSpec)

end Rows
end Go.Proofs.Yteogogcjndfkoaa
