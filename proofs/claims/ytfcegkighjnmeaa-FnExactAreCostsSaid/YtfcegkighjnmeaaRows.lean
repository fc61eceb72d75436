/-
  No cell of these rows narrows 'for every input' (looked for: loops, veiled, ifaces, maps, wideKeys, modest, calm, conditions, laid).
  DERIVED. THE GIVEN ROWS OF THIS SEAT. 12 by the template 'for every input the law returns true; each argument reads behind the call as it read before'; 0 by the template 'total and deterministic' (their statements: YtfcegkighjnmeaaTotals.lean).
  GIVEN WITH THE SEED: the statements are not yours to turn. If you find one false, say at which input.
  Laid BY PROGRAM, IN A SANDBOX (cutbox-rows.mjs): the forced cells as the released guide's own fill.sh prints them over the translation 1e4fe4bb25d33120… (all of the seat's roots in one cut). By AI agents, Wed Nov 11 2026. No macro, syntax, notation, axiom, sorry.
-/
import Derived.Test.YtfcegkighjnmeaaChecked
import GoSem.Claim
import GoSem.ClaimJoined
import GoSem.ClaimMapViews
import Derived.JoinedTies
import Derived.KernelRfl
namespace Go.Proofs.Ytfcegkighjnmeaa
/- THE CELL 'sum', in the pinned program and in every row, IS THE sha256 OF THE DUMP (.gsa) THAT YtfcegkighjnmeaaProg.lean LOADS. Nothing in Lean hashes anything: it is a label: what it is worth is what the hold of that sum in a sandbox is worth. -/
noncomputable def Try.pinned : Pinned := { name := "ytfcegkighjnmeaa", sum := "1e4fe4bb25d33120e5824446d8f7b620abd4672b317cd8f6645afa08c7cfa5f0", checked := Try.checked }
namespace Rows
def none {H : Type} : Left H := { results := [], args := [] }

/-- 'laws.FnExactAreCosts': WHATEVER THE INPUT: true; the input reads as it did. -/
def fnExactAreCostsSpec : ChangeSpec := { name := "fnExactAreCosts", fn := fun _ => fun
  | [d] => { results := [.lit (.bool true)], args := [d] }
  | _ => none }
def fnExactAreCostsRow : OpenClaim := { program := "ytfcegkighjnmeaa", sum := "1e4fe4bb25d33120e5824446d8f7b620abd4672b317cd8f6645afa08c7cfa5f0", func := "loop.example/g01317/laws.FnExactAreCosts", spec := "fnExactAreCosts", inPlace := ["math.Float64bits", "math.Float64frombits"], apart := false }
def FnExactAreCostsSaid : Prop := fnExactAreCostsRow.holds Try.pinned (OpenSpec.ofChange fnExactAreCostsSpec)

/-- ITS FALSE NEIGHBOUR: 'it returns false'. Refute it at one input. -/
def fnExactAreCostsWrong : ChangeSpec := { name := "fnExactAreCosts", fn := fun _ => fun
  | [d] => { results := [.lit (.bool false)], args := [d] }
  | _ => none }
def FnExactAreCostsWrongFalsely : Prop := fnExactAreCostsRow.holds Try.pinned (OpenSpec.ofChange fnExactAreCostsWrong)

/-- 'laws.FnExactEdgeCosts': WHATEVER THE INPUT: true; the input reads as it did. -/
def fnExactEdgeCostsSpec : ChangeSpec := { name := "fnExactEdgeCosts", fn := fun _ => fun
  | [d] => { results := [.lit (.bool true)], args := [d] }
  | _ => none }
def fnExactEdgeCostsRow : OpenClaim := { program := "ytfcegkighjnmeaa", sum := "1e4fe4bb25d33120e5824446d8f7b620abd4672b317cd8f6645afa08c7cfa5f0", func := "loop.example/g01317/laws.FnExactEdgeCosts", spec := "fnExactEdgeCosts", inPlace := ["math.Float64bits", "math.Float64frombits"], apart := false }
def FnExactEdgeCostsSaid : Prop := fnExactEdgeCostsRow.holds Try.pinned (OpenSpec.ofChange fnExactEdgeCostsSpec)

/-- ITS FALSE NEIGHBOUR: 'it returns false'. Refute it at one input. -/
def fnExactEdgeCostsWrong : ChangeSpec := { name := "fnExactEdgeCosts", fn := fun _ => fun
  | [d] => { results := [.lit (.bool false)], args := [d] }
  | _ => none }
def FnExactEdgeCostsWrongFalsely : Prop := fnExactEdgeCostsRow.holds Try.pinned (OpenSpec.ofChange fnExactEdgeCostsWrong)

/-- 'laws.FnExactHullOf': WHATEVER THE INPUT: true; the input reads as it did. -/
def fnExactHullOfSpec : ChangeSpec := { name := "fnExactHullOf", fn := fun _ => fun
  | [d1, d2] => { results := [.lit (.bool true)], args := [d1, d2] }
  | _ => none }
def fnExactHullOfRow : OpenClaim := { program := "ytfcegkighjnmeaa", sum := "1e4fe4bb25d33120e5824446d8f7b620abd4672b317cd8f6645afa08c7cfa5f0", func := "loop.example/g01317/laws.FnExactHullOf", spec := "fnExactHullOf", inPlace := ["math.Float64bits", "math.Float64frombits"], apart := false }
def FnExactHullOfSaid : Prop := fnExactHullOfRow.holds Try.pinned (OpenSpec.ofChange fnExactHullOfSpec)

/-- ITS FALSE NEIGHBOUR: 'it returns false'. Refute it at one input. -/
def fnExactHullOfWrong : ChangeSpec := { name := "fnExactHullOf", fn := fun _ => fun
  | [d1, d2] => { results := [.lit (.bool false)], args := [d1, d2] }
  | _ => none }
def FnExactHullOfWrongFalsely : Prop := fnExactHullOfRow.holds Try.pinned (OpenSpec.ofChange fnExactHullOfWrong)

/-- 'laws.FnExactLastOfHull': WHATEVER THE INPUT: true; the input reads as it did. -/
def fnExactLastOfHullSpec : ChangeSpec := { name := "fnExactLastOfHull", fn := fun _ => fun
  | [d1, d2] => { results := [.lit (.bool true)], args := [d1, d2] }
  | _ => none }
def fnExactLastOfHullRow : OpenClaim := { program := "ytfcegkighjnmeaa", sum := "1e4fe4bb25d33120e5824446d8f7b620abd4672b317cd8f6645afa08c7cfa5f0", func := "loop.example/g01317/laws.FnExactLastOfHull", spec := "fnExactLastOfHull", inPlace := ["math.Float64bits", "math.Float64frombits"], apart := false }
def FnExactLastOfHullSaid : Prop := fnExactLastOfHullRow.holds Try.pinned (OpenSpec.ofChange fnExactLastOfHullSpec)

/-- ITS FALSE NEIGHBOUR: 'it returns false'. Refute it at one input. -/
def fnExactLastOfHullWrong : ChangeSpec := { name := "fnExactLastOfHull", fn := fun _ => fun
  | [d1, d2] => { results := [.lit (.bool false)], args := [d1, d2] }
  | _ => none }
def FnExactLastOfHullWrongFalsely : Prop := fnExactLastOfHullRow.holds Try.pinned (OpenSpec.ofChange fnExactLastOfHullWrong)

/-- 'laws.FnExactCoarsenLine': WHATEVER THE INPUT: true; the input reads as it did. -/
def fnExactCoarsenLineSpec : ChangeSpec := { name := "fnExactCoarsenLine", fn := fun _ => fun
  | [d] => { results := [.lit (.bool true)], args := [d] }
  | _ => none }
def fnExactCoarsenLineRow : OpenClaim := { program := "ytfcegkighjnmeaa", sum := "1e4fe4bb25d33120e5824446d8f7b620abd4672b317cd8f6645afa08c7cfa5f0", func := "loop.example/g01317/laws.FnExactCoarsenLine", spec := "fnExactCoarsenLine", inPlace := ["math.Float64bits", "math.Float64frombits"], apart := false }
def FnExactCoarsenLineSaid : Prop := fnExactCoarsenLineRow.holds Try.pinned (OpenSpec.ofChange fnExactCoarsenLineSpec)

/-- ITS FALSE NEIGHBOUR: 'it returns false'. Refute it at one input. -/
def fnExactCoarsenLineWrong : ChangeSpec := { name := "fnExactCoarsenLine", fn := fun _ => fun
  | [d] => { results := [.lit (.bool false)], args := [d] }
  | _ => none }
def FnExactCoarsenLineWrongFalsely : Prop := fnExactCoarsenLineRow.holds Try.pinned (OpenSpec.ofChange fnExactCoarsenLineWrong)

/-- 'laws.FnExactRefineLine': WHATEVER THE INPUT: true; the input reads as it did. -/
def fnExactRefineLineSpec : ChangeSpec := { name := "fnExactRefineLine", fn := fun _ => fun
  | [d] => { results := [.lit (.bool true)], args := [d] }
  | _ => none }
def fnExactRefineLineRow : OpenClaim := { program := "ytfcegkighjnmeaa", sum := "1e4fe4bb25d33120e5824446d8f7b620abd4672b317cd8f6645afa08c7cfa5f0", func := "loop.example/g01317/laws.FnExactRefineLine", spec := "fnExactRefineLine", inPlace := ["math.Float64bits", "math.Float64frombits"], apart := false }
def FnExactRefineLineSaid : Prop := fnExactRefineLineRow.holds Try.pinned (OpenSpec.ofChange fnExactRefineLineSpec)

/-- ITS FALSE NEIGHBOUR: 'it returns false'. Refute it at one input. -/
def fnExactRefineLineWrong : ChangeSpec := { name := "fnExactRefineLine", fn := fun _ => fun
  | [d] => { results := [.lit (.bool false)], args := [d] }
  | _ => none }
def FnExactRefineLineWrongFalsely : Prop := fnExactRefineLineRow.holds Try.pinned (OpenSpec.ofChange fnExactRefineLineWrong)

/-- 'laws.FnExactResidualOf': WHATEVER THE INPUT: true; the input reads as it did. -/
def fnExactResidualOfSpec : ChangeSpec := { name := "fnExactResidualOf", fn := fun _ => fun
  | [d1, d2, d3] => { results := [.lit (.bool true)], args := [d1, d2, d3] }
  | _ => none }
def fnExactResidualOfRow : OpenClaim := { program := "ytfcegkighjnmeaa", sum := "1e4fe4bb25d33120e5824446d8f7b620abd4672b317cd8f6645afa08c7cfa5f0", func := "loop.example/g01317/laws.FnExactResidualOf", spec := "fnExactResidualOf", inPlace := ["math.Float64bits", "math.Float64frombits"], unfollowed := true, recurses := true, apart := false }
def FnExactResidualOfSaid : Prop := fnExactResidualOfRow.holds Try.pinned (OpenSpec.ofChange fnExactResidualOfSpec)

/-- ITS FALSE NEIGHBOUR: 'it returns false'. Refute it at one input. -/
def fnExactResidualOfWrong : ChangeSpec := { name := "fnExactResidualOf", fn := fun _ => fun
  | [d1, d2, d3] => { results := [.lit (.bool false)], args := [d1, d2, d3] }
  | _ => none }
def FnExactResidualOfWrongFalsely : Prop := fnExactResidualOfRow.holds Try.pinned (OpenSpec.ofChange fnExactResidualOfWrong)

/-- 'laws.FnExactSmoothLine': WHATEVER THE INPUT: true; the input reads as it did. -/
def fnExactSmoothLineSpec : ChangeSpec := { name := "fnExactSmoothLine", fn := fun _ => fun
  | [d1, d2, d3, d4] => { results := [.lit (.bool true)], args := [d1, d2, d3, d4] }
  | _ => none }
def fnExactSmoothLineRow : OpenClaim := { program := "ytfcegkighjnmeaa", sum := "1e4fe4bb25d33120e5824446d8f7b620abd4672b317cd8f6645afa08c7cfa5f0", func := "loop.example/g01317/laws.FnExactSmoothLine", spec := "fnExactSmoothLine", inPlace := ["math.Float64bits", "math.Float64frombits"], unfollowed := true, recurses := true, apart := false }
def FnExactSmoothLineSaid : Prop := fnExactSmoothLineRow.holds Try.pinned (OpenSpec.ofChange fnExactSmoothLineSpec)

/-- ITS FALSE NEIGHBOUR: 'it returns false'. Refute it at one input. -/
def fnExactSmoothLineWrong : ChangeSpec := { name := "fnExactSmoothLine", fn := fun _ => fun
  | [d1, d2, d3, d4] => { results := [.lit (.bool false)], args := [d1, d2, d3, d4] }
  | _ => none }
def FnExactSmoothLineWrongFalsely : Prop := fnExactSmoothLineRow.holds Try.pinned (OpenSpec.ofChange fnExactSmoothLineWrong)

/-- 'laws.FnExactSolveLine': WHATEVER THE INPUT: true; the input reads as it did. -/
def fnExactSolveLineSpec : ChangeSpec := { name := "fnExactSolveLine", fn := fun _ => fun
  | [d1, d2] => { results := [.lit (.bool true)], args := [d1, d2] }
  | _ => none }
def fnExactSolveLineRow : OpenClaim := { program := "ytfcegkighjnmeaa", sum := "1e4fe4bb25d33120e5824446d8f7b620abd4672b317cd8f6645afa08c7cfa5f0", func := "loop.example/g01317/laws.FnExactSolveLine", spec := "fnExactSolveLine", inPlace := ["math.Float64bits", "math.Float64frombits"], apart := false }
def FnExactSolveLineSaid : Prop := fnExactSolveLineRow.holds Try.pinned (OpenSpec.ofChange fnExactSolveLineSpec)

/-- ITS FALSE NEIGHBOUR: 'it returns false'. Refute it at one input. -/
def fnExactSolveLineWrong : ChangeSpec := { name := "fnExactSolveLine", fn := fun _ => fun
  | [d1, d2] => { results := [.lit (.bool false)], args := [d1, d2] }
  | _ => none }
def FnExactSolveLineWrongFalsely : Prop := fnExactSolveLineRow.holds Try.pinned (OpenSpec.ofChange fnExactSolveLineWrong)

/-- 'laws.FnExactSurplusOf': WHATEVER THE INPUT: true; the input reads as it did. -/
def fnExactSurplusOfSpec : ChangeSpec := { name := "fnExactSurplusOf", fn := fun _ => fun
  | [d] => { results := [.lit (.bool true)], args := [d] }
  | _ => none }
def fnExactSurplusOfRow : OpenClaim := { program := "ytfcegkighjnmeaa", sum := "1e4fe4bb25d33120e5824446d8f7b620abd4672b317cd8f6645afa08c7cfa5f0", func := "loop.example/g01317/laws.FnExactSurplusOf", spec := "fnExactSurplusOf", inPlace := ["math.Float64bits", "math.Float64frombits"], apart := false }
def FnExactSurplusOfSaid : Prop := fnExactSurplusOfRow.holds Try.pinned (OpenSpec.ofChange fnExactSurplusOfSpec)

/-- ITS FALSE NEIGHBOUR: 'it returns false'. Refute it at one input. -/
def fnExactSurplusOfWrong : ChangeSpec := { name := "fnExactSurplusOf", fn := fun _ => fun
  | [d] => { results := [.lit (.bool false)], args := [d] }
  | _ => none }
def FnExactSurplusOfWrongFalsely : Prop := fnExactSurplusOfRow.holds Try.pinned (OpenSpec.ofChange fnExactSurplusOfWrong)

/-- 'laws.FnExactFromSurplus': WHATEVER THE INPUT: true; the input reads as it did. -/
def fnExactFromSurplusSpec : ChangeSpec := { name := "fnExactFromSurplus", fn := fun _ => fun
  | [d] => { results := [.lit (.bool true)], args := [d] }
  | _ => none }
def fnExactFromSurplusRow : OpenClaim := { program := "ytfcegkighjnmeaa", sum := "1e4fe4bb25d33120e5824446d8f7b620abd4672b317cd8f6645afa08c7cfa5f0", func := "loop.example/g01317/laws.FnExactFromSurplus", spec := "fnExactFromSurplus", inPlace := ["math.Float64bits", "math.Float64frombits"], apart := false }
def FnExactFromSurplusSaid : Prop := fnExactFromSurplusRow.holds Try.pinned (OpenSpec.ofChange fnExactFromSurplusSpec)

/-- ITS FALSE NEIGHBOUR: 'it returns false'. Refute it at one input. -/
def fnExactFromSurplusWrong : ChangeSpec := { name := "fnExactFromSurplus", fn := fun _ => fun
  | [d] => { results := [.lit (.bool false)], args := [d] }
  | _ => none }
def FnExactFromSurplusWrongFalsely : Prop := fnExactFromSurplusRow.holds Try.pinned (OpenSpec.ofChange fnExactFromSurplusWrong)

/-- 'laws.FnExactThinSurplus': WHATEVER THE INPUT: true; the input reads as it did. -/
def fnExactThinSurplusSpec : ChangeSpec := { name := "fnExactThinSurplus", fn := fun _ => fun
  | [d1, d2] => { results := [.lit (.bool true)], args := [d1, d2] }
  | _ => none }
def fnExactThinSurplusRow : OpenClaim := { program := "ytfcegkighjnmeaa", sum := "1e4fe4bb25d33120e5824446d8f7b620abd4672b317cd8f6645afa08c7cfa5f0", func := "loop.example/g01317/laws.FnExactThinSurplus", spec := "fnExactThinSurplus", inPlace := ["math.Float64bits", "math.Float64frombits"], apart := false }
def FnExactThinSurplusSaid : Prop := fnExactThinSurplusRow.holds Try.pinned (OpenSpec.ofChange fnExactThinSurplusSpec)

/-- ITS FALSE NEIGHBOUR: 'it returns false'. Refute it at one input. -/
def fnExactThinSurplusWrong : ChangeSpec := { name := "fnExactThinSurplus", fn := fun _ => fun
  | [d1, d2] => { results := [.lit (.bool false)], args := [d1, d2] }
  | _ => none }
def FnExactThinSurplusWrongFalsely : Prop := fnExactThinSurplusRow.holds Try.pinned (OpenSpec.ofChange fnExactThinSurplusWrong)

/- THE SECOND FORM. 'bulk': how many values and letters a reading holds, each counted each time it is reached (what is shared counts as often as it is met; a slice's spare places count too). A statement '..UptoSaid' is the law's where the arguments, and the package variables that the reading takes, are together of bulk at most 1048576: NARROWER than '..Said'. Prove '..Said' where nothing that the law and all that it calls make is longer than what came in: it says more and counts as full. Else prove '..UptoSaid'. A law counts once. -/
mutual
def uptoBulk {H : Type} : DataW H → Nat
  | .lit (.string bytes) => bytes.length + 1
  | .lit _ => 1
  | .nil => 1
  | .ptr d => uptoBulk d + 1
  | .slice elems spare => uptoBulkAll elems + uptoBulkAll spare + 1
  | .agg parts => uptoBulkAll parts + 1
  | .iface _ d => uptoBulk d + 1
  | .map entries => uptoBulkEntries entries + 1
  | .held _ => 1
def uptoBulkAll {H : Type} : List (DataW H) → Nat
  | [] => 0
  | d :: r => uptoBulk d + uptoBulkAll r
def uptoBulkEntries {H : Type} : List (Lit × DataW H) → Nat
  | [] => 0
  | x :: r => uptoBulkEntry x + uptoBulkEntries r
def uptoBulkEntry {H : Type} : Lit × DataW H → Nat
  | (.string bytes, d) => bytes.length + uptoBulk d + 1
  | (_, d) => uptoBulk d + 1
 end
def uptoSmall : (H : Type) → List (DataW H) → Bool := fun _ ds => decide (uptoBulkAll ds ≤ 1048576)
def OpenSpec.upto (s : _root_.Go.ChangeSpec) : _root_.Go.OpenSpec := { _root_.Go.OpenSpec.ofChange s with cond := some uptoSmall }

/-- 'laws.FnExactAreCosts', WHERE WHAT IT READS IS OF BULK AT MOST 1048576: true; the input reads as it did. -/
def fnExactAreCostsUptoRow : OpenClaim := { program := "ytfcegkighjnmeaa", sum := "1e4fe4bb25d33120e5824446d8f7b620abd4672b317cd8f6645afa08c7cfa5f0", func := "loop.example/g01317/laws.FnExactAreCosts", spec := "fnExactAreCosts", inPlace := ["math.Float64bits", "math.Float64frombits"], apart := false, narrowed := true }
def FnExactAreCostsUptoSaid : Prop := fnExactAreCostsUptoRow.holds Try.pinned (OpenSpec.upto fnExactAreCostsSpec)

/-- 'laws.FnExactEdgeCosts', WHERE WHAT IT READS IS OF BULK AT MOST 1048576: true; the input reads as it did. -/
def fnExactEdgeCostsUptoRow : OpenClaim := { program := "ytfcegkighjnmeaa", sum := "1e4fe4bb25d33120e5824446d8f7b620abd4672b317cd8f6645afa08c7cfa5f0", func := "loop.example/g01317/laws.FnExactEdgeCosts", spec := "fnExactEdgeCosts", inPlace := ["math.Float64bits", "math.Float64frombits"], apart := false, narrowed := true }
def FnExactEdgeCostsUptoSaid : Prop := fnExactEdgeCostsUptoRow.holds Try.pinned (OpenSpec.upto fnExactEdgeCostsSpec)

/-- 'laws.FnExactHullOf', WHERE WHAT IT READS IS OF BULK AT MOST 1048576: true; the input reads as it did. -/
def fnExactHullOfUptoRow : OpenClaim := { program := "ytfcegkighjnmeaa", sum := "1e4fe4bb25d33120e5824446d8f7b620abd4672b317cd8f6645afa08c7cfa5f0", func := "loop.example/g01317/laws.FnExactHullOf", spec := "fnExactHullOf", inPlace := ["math.Float64bits", "math.Float64frombits"], apart := false, narrowed := true }
def FnExactHullOfUptoSaid : Prop := fnExactHullOfUptoRow.holds Try.pinned (OpenSpec.upto fnExactHullOfSpec)

/-- 'laws.FnExactLastOfHull', WHERE WHAT IT READS IS OF BULK AT MOST 1048576: true; the input reads as it did. -/
def fnExactLastOfHullUptoRow : OpenClaim := { program := "ytfcegkighjnmeaa", sum := "1e4fe4bb25d33120e5824446d8f7b620abd4672b317cd8f6645afa08c7cfa5f0", func := "loop.example/g01317/laws.FnExactLastOfHull", spec := "fnExactLastOfHull", inPlace := ["math.Float64bits", "math.Float64frombits"], apart := false, narrowed := true }
def FnExactLastOfHullUptoSaid : Prop := fnExactLastOfHullUptoRow.holds Try.pinned (OpenSpec.upto fnExactLastOfHullSpec)

/-- 'laws.FnExactCoarsenLine', WHERE WHAT IT READS IS OF BULK AT MOST 1048576: true; the input reads as it did. -/
def fnExactCoarsenLineUptoRow : OpenClaim := { program := "ytfcegkighjnmeaa", sum := "1e4fe4bb25d33120e5824446d8f7b620abd4672b317cd8f6645afa08c7cfa5f0", func := "loop.example/g01317/laws.FnExactCoarsenLine", spec := "fnExactCoarsenLine", inPlace := ["math.Float64bits", "math.Float64frombits"], apart := false, narrowed := true }
def FnExactCoarsenLineUptoSaid : Prop := fnExactCoarsenLineUptoRow.holds Try.pinned (OpenSpec.upto fnExactCoarsenLineSpec)

/-- 'laws.FnExactRefineLine', WHERE WHAT IT READS IS OF BULK AT MOST 1048576: true; the input reads as it did. -/
def fnExactRefineLineUptoRow : OpenClaim := { program := "ytfcegkighjnmeaa", sum := "1e4fe4bb25d33120e5824446d8f7b620abd4672b317cd8f6645afa08c7cfa5f0", func := "loop.example/g01317/laws.FnExactRefineLine", spec := "fnExactRefineLine", inPlace := ["math.Float64bits", "math.Float64frombits"], apart := false, narrowed := true }
def FnExactRefineLineUptoSaid : Prop := fnExactRefineLineUptoRow.holds Try.pinned (OpenSpec.upto fnExactRefineLineSpec)

/-- 'laws.FnExactResidualOf', WHERE WHAT IT READS IS OF BULK AT MOST 1048576: true; the input reads as it did. -/
def fnExactResidualOfUptoRow : OpenClaim := { program := "ytfcegkighjnmeaa", sum := "1e4fe4bb25d33120e5824446d8f7b620abd4672b317cd8f6645afa08c7cfa5f0", func := "loop.example/g01317/laws.FnExactResidualOf", spec := "fnExactResidualOf", inPlace := ["math.Float64bits", "math.Float64frombits"], unfollowed := true, recurses := true, apart := false, narrowed := true }
def FnExactResidualOfUptoSaid : Prop := fnExactResidualOfUptoRow.holds Try.pinned (OpenSpec.upto fnExactResidualOfSpec)

/-- 'laws.FnExactSmoothLine', WHERE WHAT IT READS IS OF BULK AT MOST 1048576: true; the input reads as it did. -/
def fnExactSmoothLineUptoRow : OpenClaim := { program := "ytfcegkighjnmeaa", sum := "1e4fe4bb25d33120e5824446d8f7b620abd4672b317cd8f6645afa08c7cfa5f0", func := "loop.example/g01317/laws.FnExactSmoothLine", spec := "fnExactSmoothLine", inPlace := ["math.Float64bits", "math.Float64frombits"], unfollowed := true, recurses := true, apart := false, narrowed := true }
def FnExactSmoothLineUptoSaid : Prop := fnExactSmoothLineUptoRow.holds Try.pinned (OpenSpec.upto fnExactSmoothLineSpec)

/-- 'laws.FnExactSolveLine', WHERE WHAT IT READS IS OF BULK AT MOST 1048576: true; the input reads as it did. -/
def fnExactSolveLineUptoRow : OpenClaim := { program := "ytfcegkighjnmeaa", sum := "1e4fe4bb25d33120e5824446d8f7b620abd4672b317cd8f6645afa08c7cfa5f0", func := "loop.example/g01317/laws.FnExactSolveLine", spec := "fnExactSolveLine", inPlace := ["math.Float64bits", "math.Float64frombits"], apart := false, narrowed := true }
def FnExactSolveLineUptoSaid : Prop := fnExactSolveLineUptoRow.holds Try.pinned (OpenSpec.upto fnExactSolveLineSpec)

/-- 'laws.FnExactSurplusOf', WHERE WHAT IT READS IS OF BULK AT MOST 1048576: true; the input reads as it did. -/
def fnExactSurplusOfUptoRow : OpenClaim := { program := "ytfcegkighjnmeaa", sum := "1e4fe4bb25d33120e5824446d8f7b620abd4672b317cd8f6645afa08c7cfa5f0", func := "loop.example/g01317/laws.FnExactSurplusOf", spec := "fnExactSurplusOf", inPlace := ["math.Float64bits", "math.Float64frombits"], apart := false, narrowed := true }
def FnExactSurplusOfUptoSaid : Prop := fnExactSurplusOfUptoRow.holds Try.pinned (OpenSpec.upto fnExactSurplusOfSpec)

/-- 'laws.FnExactFromSurplus', WHERE WHAT IT READS IS OF BULK AT MOST 1048576: true; the input reads as it did. -/
def fnExactFromSurplusUptoRow : OpenClaim := { program := "ytfcegkighjnmeaa", sum := "1e4fe4bb25d33120e5824446d8f7b620abd4672b317cd8f6645afa08c7cfa5f0", func := "loop.example/g01317/laws.FnExactFromSurplus", spec := "fnExactFromSurplus", inPlace := ["math.Float64bits", "math.Float64frombits"], apart := false, narrowed := true }
def FnExactFromSurplusUptoSaid : Prop := fnExactFromSurplusUptoRow.holds Try.pinned (OpenSpec.upto fnExactFromSurplusSpec)

/-- 'laws.FnExactThinSurplus', WHERE WHAT IT READS IS OF BULK AT MOST 1048576: true; the input reads as it did. -/
def fnExactThinSurplusUptoRow : OpenClaim := { program := "ytfcegkighjnmeaa", sum := "1e4fe4bb25d33120e5824446d8f7b620abd4672b317cd8f6645afa08c7cfa5f0", func := "loop.example/g01317/laws.FnExactThinSurplus", spec := "fnExactThinSurplus", inPlace := ["math.Float64bits", "math.Float64frombits"], apart := false, narrowed := true }
def FnExactThinSurplusUptoSaid : Prop := fnExactThinSurplusUptoRow.holds Try.pinned (OpenSpec.upto fnExactThinSurplusSpec)

end Rows
end Go.Proofs.Ytfcegkighjnmeaa
