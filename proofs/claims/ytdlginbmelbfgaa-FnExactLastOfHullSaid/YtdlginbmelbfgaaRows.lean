/-
  No cell of these rows narrows 'for every input' (looked for: loops, veiled, ifaces, maps, wideKeys, modest, calm, conditions, laid).
  DERIVED. THE GIVEN ROWS OF THIS SEAT. 12 by the template 'for every input the law returns true; each argument reads behind the call as it read before'; 0 by the template 'total and deterministic' (their statements: YtdlginbmelbfgaaTotals.lean).
  GIVEN WITH THE SEED: the statements are not yours to turn. If you find one false, say at which input.
  Laid BY PROGRAM, IN A SANDBOX (cutbox-rows.mjs): the forced cells as the released guide's own fill.sh prints them over the translation a8853e8034c2a4f9… (all of the seat's roots in one cut). By AI agents, Wed Nov 11 2026. No macro, syntax, notation, axiom, sorry.
-/
import Derived.Test.YtdlginbmelbfgaaChecked
import GoSem.Claim
import GoSem.ClaimJoined
import GoSem.ClaimMapViews
import Derived.JoinedTies
import Derived.KernelRfl
namespace Go.Proofs.Ytdlginbmelbfgaa
/- THE CELL 'sum', in the pinned program and in every row, IS THE sha256 OF THE DUMP (.gsa) THAT YtdlginbmelbfgaaProg.lean LOADS. Nothing in Lean hashes anything: it is a label: what it is worth is what the hold of that sum in a sandbox is worth. -/
noncomputable def Try.pinned : Pinned := { name := "ytdlginbmelbfgaa", sum := "a8853e8034c2a4f9437cd640091a8521aed30b172f0fc300810bdaa733c3b514", checked := Try.checked }
namespace Rows
def none {H : Type} : Left H := { results := [], args := [] }

/-- 'laws.FnExactZigZag': WHATEVER THE INPUT: true; the input reads as it did. -/
def fnExactZigZagSpec : ChangeSpec := { name := "fnExactZigZag", fn := fun _ => fun
  | [d] => { results := [.lit (.bool true)], args := [d] }
  | _ => none }
def fnExactZigZagRow : OpenClaim := { program := "ytdlginbmelbfgaa", sum := "a8853e8034c2a4f9437cd640091a8521aed30b172f0fc300810bdaa733c3b514", func := "loop.example/g01317/laws.FnExactZigZag", spec := "fnExactZigZag", apart := false }
def FnExactZigZagSaid : Prop := fnExactZigZagRow.holds Try.pinned (OpenSpec.ofChange fnExactZigZagSpec)

/-- ITS FALSE NEIGHBOUR: 'it returns false'. Refute it at one input. -/
def fnExactZigZagWrong : ChangeSpec := { name := "fnExactZigZag", fn := fun _ => fun
  | [d] => { results := [.lit (.bool false)], args := [d] }
  | _ => none }
def FnExactZigZagWrongFalsely : Prop := fnExactZigZagRow.holds Try.pinned (OpenSpec.ofChange fnExactZigZagWrong)

/-- 'laws.FnExactFromZigZag': WHATEVER THE INPUT: true; the input reads as it did. -/
def fnExactFromZigZagSpec : ChangeSpec := { name := "fnExactFromZigZag", fn := fun _ => fun
  | [d] => { results := [.lit (.bool true)], args := [d] }
  | _ => none }
def fnExactFromZigZagRow : OpenClaim := { program := "ytdlginbmelbfgaa", sum := "a8853e8034c2a4f9437cd640091a8521aed30b172f0fc300810bdaa733c3b514", func := "loop.example/g01317/laws.FnExactFromZigZag", spec := "fnExactFromZigZag", apart := false }
def FnExactFromZigZagSaid : Prop := fnExactFromZigZagRow.holds Try.pinned (OpenSpec.ofChange fnExactFromZigZagSpec)

/-- ITS FALSE NEIGHBOUR: 'it returns false'. Refute it at one input. -/
def fnExactFromZigZagWrong : ChangeSpec := { name := "fnExactFromZigZag", fn := fun _ => fun
  | [d] => { results := [.lit (.bool false)], args := [d] }
  | _ => none }
def FnExactFromZigZagWrongFalsely : Prop := fnExactFromZigZagRow.holds Try.pinned (OpenSpec.ofChange fnExactFromZigZagWrong)

/-- 'laws.FnExactRiceLong': WHATEVER THE INPUT: true; the input reads as it did. -/
def fnExactRiceLongSpec : ChangeSpec := { name := "fnExactRiceLong", fn := fun _ => fun
  | [d1, d2] => { results := [.lit (.bool true)], args := [d1, d2] }
  | _ => none }
def fnExactRiceLongRow : OpenClaim := { program := "ytdlginbmelbfgaa", sum := "a8853e8034c2a4f9437cd640091a8521aed30b172f0fc300810bdaa733c3b514", func := "loop.example/g01317/laws.FnExactRiceLong", spec := "fnExactRiceLong", apart := false }
def FnExactRiceLongSaid : Prop := fnExactRiceLongRow.holds Try.pinned (OpenSpec.ofChange fnExactRiceLongSpec)

/-- ITS FALSE NEIGHBOUR: 'it returns false'. Refute it at one input. -/
def fnExactRiceLongWrong : ChangeSpec := { name := "fnExactRiceLong", fn := fun _ => fun
  | [d1, d2] => { results := [.lit (.bool false)], args := [d1, d2] }
  | _ => none }
def FnExactRiceLongWrongFalsely : Prop := fnExactRiceLongRow.holds Try.pinned (OpenSpec.ofChange fnExactRiceLongWrong)

/-- 'laws.FnExactBestRice': WHATEVER THE INPUT: true; the input reads as it did. -/
def fnExactBestRiceSpec : ChangeSpec := { name := "fnExactBestRice", fn := fun _ => fun
  | [d] => { results := [.lit (.bool true)], args := [d] }
  | _ => none }
def fnExactBestRiceRow : OpenClaim := { program := "ytdlginbmelbfgaa", sum := "a8853e8034c2a4f9437cd640091a8521aed30b172f0fc300810bdaa733c3b514", func := "loop.example/g01317/laws.FnExactBestRice", spec := "fnExactBestRice", apart := false }
def FnExactBestRiceSaid : Prop := fnExactBestRiceRow.holds Try.pinned (OpenSpec.ofChange fnExactBestRiceSpec)

/-- ITS FALSE NEIGHBOUR: 'it returns false'. Refute it at one input. -/
def fnExactBestRiceWrong : ChangeSpec := { name := "fnExactBestRice", fn := fun _ => fun
  | [d] => { results := [.lit (.bool false)], args := [d] }
  | _ => none }
def FnExactBestRiceWrongFalsely : Prop := fnExactBestRiceRow.holds Try.pinned (OpenSpec.ofChange fnExactBestRiceWrong)

/-- 'laws.FnExactRiceCode': WHATEVER THE INPUT: true; the input reads as it did. -/
def fnExactRiceCodeSpec : ChangeSpec := { name := "fnExactRiceCode", fn := fun _ => fun
  | [d1, d2] => { results := [.lit (.bool true)], args := [d1, d2] }
  | _ => none }
def fnExactRiceCodeRow : OpenClaim := { program := "ytdlginbmelbfgaa", sum := "a8853e8034c2a4f9437cd640091a8521aed30b172f0fc300810bdaa733c3b514", func := "loop.example/g01317/laws.FnExactRiceCode", spec := "fnExactRiceCode", apart := false }
def FnExactRiceCodeSaid : Prop := fnExactRiceCodeRow.holds Try.pinned (OpenSpec.ofChange fnExactRiceCodeSpec)

/-- ITS FALSE NEIGHBOUR: 'it returns false'. Refute it at one input. -/
def fnExactRiceCodeWrong : ChangeSpec := { name := "fnExactRiceCode", fn := fun _ => fun
  | [d1, d2] => { results := [.lit (.bool false)], args := [d1, d2] }
  | _ => none }
def FnExactRiceCodeWrongFalsely : Prop := fnExactRiceCodeRow.holds Try.pinned (OpenSpec.ofChange fnExactRiceCodeWrong)

/-- 'laws.FnExactValidCoded': WHATEVER THE INPUT: true; the input reads as it did. -/
def fnExactValidCodedSpec : ChangeSpec := { name := "fnExactValidCoded", fn := fun _ => fun
  | [d] => { results := [.lit (.bool true)], args := [d] }
  | _ => none }
def fnExactValidCodedRow : OpenClaim := { program := "ytdlginbmelbfgaa", sum := "a8853e8034c2a4f9437cd640091a8521aed30b172f0fc300810bdaa733c3b514", func := "loop.example/g01317/laws.FnExactValidCoded", spec := "fnExactValidCoded", apart := false }
def FnExactValidCodedSaid : Prop := fnExactValidCodedRow.holds Try.pinned (OpenSpec.ofChange fnExactValidCodedSpec)

/-- ITS FALSE NEIGHBOUR: 'it returns false'. Refute it at one input. -/
def fnExactValidCodedWrong : ChangeSpec := { name := "fnExactValidCoded", fn := fun _ => fun
  | [d] => { results := [.lit (.bool false)], args := [d] }
  | _ => none }
def FnExactValidCodedWrongFalsely : Prop := fnExactValidCodedRow.holds Try.pinned (OpenSpec.ofChange fnExactValidCodedWrong)

/-- 'laws.FnExactSameCoded': WHATEVER THE INPUT: true; the input reads as it did. -/
def fnExactSameCodedSpec : ChangeSpec := { name := "fnExactSameCoded", fn := fun _ => fun
  | [d1, d2] => { results := [.lit (.bool true)], args := [d1, d2] }
  | _ => none }
def fnExactSameCodedRow : OpenClaim := { program := "ytdlginbmelbfgaa", sum := "a8853e8034c2a4f9437cd640091a8521aed30b172f0fc300810bdaa733c3b514", func := "loop.example/g01317/laws.FnExactSameCoded", spec := "fnExactSameCoded", apart := false }
def FnExactSameCodedSaid : Prop := fnExactSameCodedRow.holds Try.pinned (OpenSpec.ofChange fnExactSameCodedSpec)

/-- ITS FALSE NEIGHBOUR: 'it returns false'. Refute it at one input. -/
def fnExactSameCodedWrong : ChangeSpec := { name := "fnExactSameCoded", fn := fun _ => fun
  | [d1, d2] => { results := [.lit (.bool false)], args := [d1, d2] }
  | _ => none }
def FnExactSameCodedWrongFalsely : Prop := fnExactSameCodedRow.holds Try.pinned (OpenSpec.ofChange fnExactSameCodedWrong)

/-- 'laws.FnExactCutCoded': WHATEVER THE INPUT: true; the input reads as it did. -/
def fnExactCutCodedSpec : ChangeSpec := { name := "fnExactCutCoded", fn := fun _ => fun
  | [d1, d2] => { results := [.lit (.bool true)], args := [d1, d2] }
  | _ => none }
def fnExactCutCodedRow : OpenClaim := { program := "ytdlginbmelbfgaa", sum := "a8853e8034c2a4f9437cd640091a8521aed30b172f0fc300810bdaa733c3b514", func := "loop.example/g01317/laws.FnExactCutCoded", spec := "fnExactCutCoded", apart := false }
def FnExactCutCodedSaid : Prop := fnExactCutCodedRow.holds Try.pinned (OpenSpec.ofChange fnExactCutCodedSpec)

/-- ITS FALSE NEIGHBOUR: 'it returns false'. Refute it at one input. -/
def fnExactCutCodedWrong : ChangeSpec := { name := "fnExactCutCoded", fn := fun _ => fun
  | [d1, d2] => { results := [.lit (.bool false)], args := [d1, d2] }
  | _ => none }
def FnExactCutCodedWrongFalsely : Prop := fnExactCutCodedRow.holds Try.pinned (OpenSpec.ofChange fnExactCutCodedWrong)

/-- 'laws.FnExactScaleList': WHATEVER THE INPUT: true; the input reads as it did. -/
def fnExactScaleListSpec : ChangeSpec := { name := "fnExactScaleList", fn := fun _ => fun
  | [d1, d2] => { results := [.lit (.bool true)], args := [d1, d2] }
  | _ => none }
def fnExactScaleListRow : OpenClaim := { program := "ytdlginbmelbfgaa", sum := "a8853e8034c2a4f9437cd640091a8521aed30b172f0fc300810bdaa733c3b514", func := "loop.example/g01317/laws.FnExactScaleList", spec := "fnExactScaleList", inPlace := ["math.Float64bits", "math.Float64frombits"], apart := false }
def FnExactScaleListSaid : Prop := fnExactScaleListRow.holds Try.pinned (OpenSpec.ofChange fnExactScaleListSpec)

/-- ITS FALSE NEIGHBOUR: 'it returns false'. Refute it at one input. -/
def fnExactScaleListWrong : ChangeSpec := { name := "fnExactScaleList", fn := fun _ => fun
  | [d1, d2] => { results := [.lit (.bool false)], args := [d1, d2] }
  | _ => none }
def FnExactScaleListWrongFalsely : Prop := fnExactScaleListRow.holds Try.pinned (OpenSpec.ofChange fnExactScaleListWrong)

/-- 'laws.FnExactListOfScale': WHATEVER THE INPUT: true; the input reads as it did. -/
def fnExactListOfScaleSpec : ChangeSpec := { name := "fnExactListOfScale", fn := fun _ => fun
  | [d1, d2, d3] => { results := [.lit (.bool true)], args := [d1, d2, d3] }
  | _ => none }
def fnExactListOfScaleRow : OpenClaim := { program := "ytdlginbmelbfgaa", sum := "a8853e8034c2a4f9437cd640091a8521aed30b172f0fc300810bdaa733c3b514", func := "loop.example/g01317/laws.FnExactListOfScale", spec := "fnExactListOfScale", inPlace := ["math.Float64bits", "math.Float64frombits"], apart := false }
def FnExactListOfScaleSaid : Prop := fnExactListOfScaleRow.holds Try.pinned (OpenSpec.ofChange fnExactListOfScaleSpec)

/-- ITS FALSE NEIGHBOUR: 'it returns false'. Refute it at one input. -/
def fnExactListOfScaleWrong : ChangeSpec := { name := "fnExactListOfScale", fn := fun _ => fun
  | [d1, d2, d3] => { results := [.lit (.bool false)], args := [d1, d2, d3] }
  | _ => none }
def FnExactListOfScaleWrongFalsely : Prop := fnExactListOfScaleRow.holds Try.pinned (OpenSpec.ofChange fnExactListOfScaleWrong)

/-- 'laws.FnExactHullOf': WHATEVER THE INPUT: true; the input reads as it did. -/
def fnExactHullOfSpec : ChangeSpec := { name := "fnExactHullOf", fn := fun _ => fun
  | [d1, d2] => { results := [.lit (.bool true)], args := [d1, d2] }
  | _ => none }
def fnExactHullOfRow : OpenClaim := { program := "ytdlginbmelbfgaa", sum := "a8853e8034c2a4f9437cd640091a8521aed30b172f0fc300810bdaa733c3b514", func := "loop.example/g01317/laws.FnExactHullOf", spec := "fnExactHullOf", inPlace := ["math.Float64bits", "math.Float64frombits"], apart := false }
def FnExactHullOfSaid : Prop := fnExactHullOfRow.holds Try.pinned (OpenSpec.ofChange fnExactHullOfSpec)

/-- ITS FALSE NEIGHBOUR: 'it returns false'. Refute it at one input. -/
def fnExactHullOfWrong : ChangeSpec := { name := "fnExactHullOf", fn := fun _ => fun
  | [d1, d2] => { results := [.lit (.bool false)], args := [d1, d2] }
  | _ => none }
def FnExactHullOfWrongFalsely : Prop := fnExactHullOfRow.holds Try.pinned (OpenSpec.ofChange fnExactHullOfWrong)

/-- 'laws.FnExactLastOfHull': WHATEVER THE INPUT: true; the input reads as it did. -/
def fnExactLastOfHullSpec : ChangeSpec := { name := "fnExactLastOfHull", fn := fun _ => fun
  | [d1, d2] => { results := [.lit (.bool true)], args := [d1, d2] }
  | _ => none }
def fnExactLastOfHullRow : OpenClaim := { program := "ytdlginbmelbfgaa", sum := "a8853e8034c2a4f9437cd640091a8521aed30b172f0fc300810bdaa733c3b514", func := "loop.example/g01317/laws.FnExactLastOfHull", spec := "fnExactLastOfHull", inPlace := ["math.Float64bits", "math.Float64frombits"], apart := false }
def FnExactLastOfHullSaid : Prop := fnExactLastOfHullRow.holds Try.pinned (OpenSpec.ofChange fnExactLastOfHullSpec)

/-- ITS FALSE NEIGHBOUR: 'it returns false'. Refute it at one input. -/
def fnExactLastOfHullWrong : ChangeSpec := { name := "fnExactLastOfHull", fn := fun _ => fun
  | [d1, d2] => { results := [.lit (.bool false)], args := [d1, d2] }
  | _ => none }
def FnExactLastOfHullWrongFalsely : Prop := fnExactLastOfHullRow.holds Try.pinned (OpenSpec.ofChange fnExactLastOfHullWrong)

/- THE SECOND FORM. 'bulk': how many values and letters a reading holds, each counted each time it is reached (what is shared counts as often as it is met; a slice's spare places count too). A statement '..UptoSaid' is the law's where the arguments, and the package variables that the reading takes, are together of bulk at most 1048576: NARROWER than '..Said'. Prove '..Said' where nothing that the law and all that it calls make is longer than what came in: it says more and counts as full. Else prove '..UptoSaid'. A law counts once. -/
mutual
def uptoBulk {H : Type} : DataW H → Nat
  | .lit (.string bytes) => bytes.length + 1
  | .lit _ => 1
  | .nil => 1
  | .ptr d => uptoBulk d + 1
  | .slice elems spare => uptoBulkAll elems + uptoBulkAll spare + 1
  | .agg parts => uptoBulkAll parts + 1
  | .iface _ d => uptoBulk d + 1
  | .map entries => uptoBulkEntries entries + 1
  | .held _ => 1
def uptoBulkAll {H : Type} : List (DataW H) → Nat
  | [] => 0
  | d :: r => uptoBulk d + uptoBulkAll r
def uptoBulkEntries {H : Type} : List (Lit × DataW H) → Nat
  | [] => 0
  | x :: r => uptoBulkEntry x + uptoBulkEntries r
def uptoBulkEntry {H : Type} : Lit × DataW H → Nat
  | (.string bytes, d) => bytes.length + uptoBulk d + 1
  | (_, d) => uptoBulk d + 1
 end
def uptoSmall : (H : Type) → List (DataW H) → Bool := fun _ ds => decide (uptoBulkAll ds ≤ 1048576)
def OpenSpec.upto (s : _root_.Go.ChangeSpec) : _root_.Go.OpenSpec := { _root_.Go.OpenSpec.ofChange s with cond := some uptoSmall }

/-- 'laws.FnExactZigZag', WHERE WHAT IT READS IS OF BULK AT MOST 1048576: true; the input reads as it did. -/
def fnExactZigZagUptoRow : OpenClaim := { program := "ytdlginbmelbfgaa", sum := "a8853e8034c2a4f9437cd640091a8521aed30b172f0fc300810bdaa733c3b514", func := "loop.example/g01317/laws.FnExactZigZag", spec := "fnExactZigZag", apart := false, narrowed := true }
def FnExactZigZagUptoSaid : Prop := fnExactZigZagUptoRow.holds Try.pinned (OpenSpec.upto fnExactZigZagSpec)

/-- 'laws.FnExactFromZigZag', WHERE WHAT IT READS IS OF BULK AT MOST 1048576: true; the input reads as it did. -/
def fnExactFromZigZagUptoRow : OpenClaim := { program := "ytdlginbmelbfgaa", sum := "a8853e8034c2a4f9437cd640091a8521aed30b172f0fc300810bdaa733c3b514", func := "loop.example/g01317/laws.FnExactFromZigZag", spec := "fnExactFromZigZag", apart := false, narrowed := true }
def FnExactFromZigZagUptoSaid : Prop := fnExactFromZigZagUptoRow.holds Try.pinned (OpenSpec.upto fnExactFromZigZagSpec)

/-- 'laws.FnExactRiceLong', WHERE WHAT IT READS IS OF BULK AT MOST 1048576: true; the input reads as it did. -/
def fnExactRiceLongUptoRow : OpenClaim := { program := "ytdlginbmelbfgaa", sum := "a8853e8034c2a4f9437cd640091a8521aed30b172f0fc300810bdaa733c3b514", func := "loop.example/g01317/laws.FnExactRiceLong", spec := "fnExactRiceLong", apart := false, narrowed := true }
def FnExactRiceLongUptoSaid : Prop := fnExactRiceLongUptoRow.holds Try.pinned (OpenSpec.upto fnExactRiceLongSpec)

/-- 'laws.FnExactBestRice', WHERE WHAT IT READS IS OF BULK AT MOST 1048576: true; the input reads as it did. -/
def fnExactBestRiceUptoRow : OpenClaim := { program := "ytdlginbmelbfgaa", sum := "a8853e8034c2a4f9437cd640091a8521aed30b172f0fc300810bdaa733c3b514", func := "loop.example/g01317/laws.FnExactBestRice", spec := "fnExactBestRice", apart := false, narrowed := true }
def FnExactBestRiceUptoSaid : Prop := fnExactBestRiceUptoRow.holds Try.pinned (OpenSpec.upto fnExactBestRiceSpec)

/-- 'laws.FnExactRiceCode', WHERE WHAT IT READS IS OF BULK AT MOST 1048576: true; the input reads as it did. -/
def fnExactRiceCodeUptoRow : OpenClaim := { program := "ytdlginbmelbfgaa", sum := "a8853e8034c2a4f9437cd640091a8521aed30b172f0fc300810bdaa733c3b514", func := "loop.example/g01317/laws.FnExactRiceCode", spec := "fnExactRiceCode", apart := false, narrowed := true }
def FnExactRiceCodeUptoSaid : Prop := fnExactRiceCodeUptoRow.holds Try.pinned (OpenSpec.upto fnExactRiceCodeSpec)

/-- 'laws.FnExactValidCoded', WHERE WHAT IT READS IS OF BULK AT MOST 1048576: true; the input reads as it did. -/
def fnExactValidCodedUptoRow : OpenClaim := { program := "ytdlginbmelbfgaa", sum := "a8853e8034c2a4f9437cd640091a8521aed30b172f0fc300810bdaa733c3b514", func := "loop.example/g01317/laws.FnExactValidCoded", spec := "fnExactValidCoded", apart := false, narrowed := true }
def FnExactValidCodedUptoSaid : Prop := fnExactValidCodedUptoRow.holds Try.pinned (OpenSpec.upto fnExactValidCodedSpec)

/-- 'laws.FnExactSameCoded', WHERE WHAT IT READS IS OF BULK AT MOST 1048576: true; the input reads as it did. -/
def fnExactSameCodedUptoRow : OpenClaim := { program := "ytdlginbmelbfgaa", sum := "a8853e8034c2a4f9437cd640091a8521aed30b172f0fc300810bdaa733c3b514", func := "loop.example/g01317/laws.FnExactSameCoded", spec := "fnExactSameCoded", apart := false, narrowed := true }
def FnExactSameCodedUptoSaid : Prop := fnExactSameCodedUptoRow.holds Try.pinned (OpenSpec.upto fnExactSameCodedSpec)

/-- 'laws.FnExactCutCoded', WHERE WHAT IT READS IS OF BULK AT MOST 1048576: true; the input reads as it did. -/
def fnExactCutCodedUptoRow : OpenClaim := { program := "ytdlginbmelbfgaa", sum := "a8853e8034c2a4f9437cd640091a8521aed30b172f0fc300810bdaa733c3b514", func := "loop.example/g01317/laws.FnExactCutCoded", spec := "fnExactCutCoded", apart := false, narrowed := true }
def FnExactCutCodedUptoSaid : Prop := fnExactCutCodedUptoRow.holds Try.pinned (OpenSpec.upto fnExactCutCodedSpec)

/-- 'laws.FnExactScaleList', WHERE WHAT IT READS IS OF BULK AT MOST 1048576: true; the input reads as it did. -/
def fnExactScaleListUptoRow : OpenClaim := { program := "ytdlginbmelbfgaa", sum := "a8853e8034c2a4f9437cd640091a8521aed30b172f0fc300810bdaa733c3b514", func := "loop.example/g01317/laws.FnExactScaleList", spec := "fnExactScaleList", inPlace := ["math.Float64bits", "math.Float64frombits"], apart := false, narrowed := true }
def FnExactScaleListUptoSaid : Prop := fnExactScaleListUptoRow.holds Try.pinned (OpenSpec.upto fnExactScaleListSpec)

/-- 'laws.FnExactListOfScale', WHERE WHAT IT READS IS OF BULK AT MOST 1048576: true; the input reads as it did. -/
def fnExactListOfScaleUptoRow : OpenClaim := { program := "ytdlginbmelbfgaa", sum := "a8853e8034c2a4f9437cd640091a8521aed30b172f0fc300810bdaa733c3b514", func := "loop.example/g01317/laws.FnExactListOfScale", spec := "fnExactListOfScale", inPlace := ["math.Float64bits", "math.Float64frombits"], apart := false, narrowed := true }
def FnExactListOfScaleUptoSaid : Prop := fnExactListOfScaleUptoRow.holds Try.pinned (OpenSpec.upto fnExactListOfScaleSpec)

/-- 'laws.FnExactHullOf', WHERE WHAT IT READS IS OF BULK AT MOST 1048576: true; the input reads as it did. -/
def fnExactHullOfUptoRow : OpenClaim := { program := "ytdlginbmelbfgaa", sum := "a8853e8034c2a4f9437cd640091a8521aed30b172f0fc300810bdaa733c3b514", func := "loop.example/g01317/laws.FnExactHullOf", spec := "fnExactHullOf", inPlace := ["math.Float64bits", "math.Float64frombits"], apart := false, narrowed := true }
def FnExactHullOfUptoSaid : Prop := fnExactHullOfUptoRow.holds Try.pinned (OpenSpec.upto fnExactHullOfSpec)

/-- 'laws.FnExactLastOfHull', WHERE WHAT IT READS IS OF BULK AT MOST 1048576: true; the input reads as it did. -/
def fnExactLastOfHullUptoRow : OpenClaim := { program := "ytdlginbmelbfgaa", sum := "a8853e8034c2a4f9437cd640091a8521aed30b172f0fc300810bdaa733c3b514", func := "loop.example/g01317/laws.FnExactLastOfHull", spec := "fnExactLastOfHull", inPlace := ["math.Float64bits", "math.Float64frombits"], apart := false, narrowed := true }
def FnExactLastOfHullUptoSaid : Prop := fnExactLastOfHullUptoRow.holds Try.pinned (OpenSpec.upto fnExactLastOfHullSpec)

end Rows
end Go.Proofs.Ytdlginbmelbfgaa
