/-
  No cell of these rows narrows 'for every input' (looked for: loops, veiled, ifaces, maps, wideKeys, modest, calm, conditions, laid).
  DERIVED. THE GIVEN ROWS OF THIS SEAT. 12 by the template 'for every input the law returns true; each argument reads behind the call as it read before'; 0 by the template 'total and deterministic' (their statements: YtpckljkhmaghmaaTotals.lean).
  GIVEN WITH THE SEED: the statements are not yours to turn. If you find one false, say at which input.
  Laid BY PROGRAM, IN A SANDBOX (cutbox-rows.mjs): the forced cells as the released guide's own fill.sh prints them over the translation fc4fb1d0d68b8c6b… (all of the seat's roots in one cut). By AI agents, Wed Nov 11 2026. No macro, syntax, notation, axiom, sorry.
-/
import Derived.Test.YtpckljkhmaghmaaChecked
import GoSem.Claim
import GoSem.ClaimJoined
import GoSem.ClaimMapViews
import Derived.JoinedTies
import Derived.KernelRfl
namespace Go.Proofs.Ytpckljkhmaghmaa
/- THE CELL 'sum', in the pinned program and in every row, IS THE sha256 OF THE DUMP (.gsa) THAT YtpckljkhmaghmaaProg.lean LOADS. Nothing in Lean hashes anything: it is a label: what it is worth is what the hold of that sum in a sandbox is worth. -/
noncomputable def Try.pinned : Pinned := { name := "ytpckljkhmaghmaa", sum := "fc4fb1d0d68b8c6b57f2bc9ffde4210f24c18c8c05eef7ab0b81b0cbcf72b8e4", checked := Try.checked }
namespace Rows
def none {H : Type} : Left H := { results := [], args := [] }

/-- 'laws.FnExactSoftShrink': WHATEVER THE INPUT: true; the input reads as it did. -/
def fnExactSoftShrinkSpec : ChangeSpec := { name := "fnExactSoftShrink", fn := fun _ => fun
  | [d1, d2] => { results := [.lit (.bool true)], args := [d1, d2] }
  | _ => none }
def fnExactSoftShrinkRow : OpenClaim := { program := "ytpckljkhmaghmaa", sum := "fc4fb1d0d68b8c6b57f2bc9ffde4210f24c18c8c05eef7ab0b81b0cbcf72b8e4", func := "loop.example/g01317/laws.FnExactSoftShrink", spec := "fnExactSoftShrink", inPlace := ["math.Float64bits", "math.Float64frombits"], unfollowed := true, recurses := true, apart := false }
def FnExactSoftShrinkSaid : Prop := fnExactSoftShrinkRow.holds Try.pinned (OpenSpec.ofChange fnExactSoftShrinkSpec)

/-- ITS FALSE NEIGHBOUR: 'it returns false'. Refute it at one input. -/
def fnExactSoftShrinkWrong : ChangeSpec := { name := "fnExactSoftShrink", fn := fun _ => fun
  | [d1, d2] => { results := [.lit (.bool false)], args := [d1, d2] }
  | _ => none }
def FnExactSoftShrinkWrongFalsely : Prop := fnExactSoftShrinkRow.holds Try.pinned (OpenSpec.ofChange fnExactSoftShrinkWrong)

/-- 'laws.FnExactHardShrink': WHATEVER THE INPUT: true; the input reads as it did. -/
def fnExactHardShrinkSpec : ChangeSpec := { name := "fnExactHardShrink", fn := fun _ => fun
  | [d1, d2] => { results := [.lit (.bool true)], args := [d1, d2] }
  | _ => none }
def fnExactHardShrinkRow : OpenClaim := { program := "ytpckljkhmaghmaa", sum := "fc4fb1d0d68b8c6b57f2bc9ffde4210f24c18c8c05eef7ab0b81b0cbcf72b8e4", func := "loop.example/g01317/laws.FnExactHardShrink", spec := "fnExactHardShrink", inPlace := ["math.Float64bits", "math.Float64frombits"], unfollowed := true, recurses := true, apart := false }
def FnExactHardShrinkSaid : Prop := fnExactHardShrinkRow.holds Try.pinned (OpenSpec.ofChange fnExactHardShrinkSpec)

/-- ITS FALSE NEIGHBOUR: 'it returns false'. Refute it at one input. -/
def fnExactHardShrinkWrong : ChangeSpec := { name := "fnExactHardShrink", fn := fun _ => fun
  | [d1, d2] => { results := [.lit (.bool false)], args := [d1, d2] }
  | _ => none }
def FnExactHardShrinkWrongFalsely : Prop := fnExactHardShrinkRow.holds Try.pinned (OpenSpec.ofChange fnExactHardShrinkWrong)

/-- 'laws.FnExactShrinkList': WHATEVER THE INPUT: true; the input reads as it did. -/
def fnExactShrinkListSpec : ChangeSpec := { name := "fnExactShrinkList", fn := fun _ => fun
  | [d1, d2, d3] => { results := [.lit (.bool true)], args := [d1, d2, d3] }
  | _ => none }
def fnExactShrinkListRow : OpenClaim := { program := "ytpckljkhmaghmaa", sum := "fc4fb1d0d68b8c6b57f2bc9ffde4210f24c18c8c05eef7ab0b81b0cbcf72b8e4", func := "loop.example/g01317/laws.FnExactShrinkList", spec := "fnExactShrinkList", inPlace := ["math.Float64bits", "math.Float64frombits"], unfollowed := true, recurses := true, apart := false }
def FnExactShrinkListSaid : Prop := fnExactShrinkListRow.holds Try.pinned (OpenSpec.ofChange fnExactShrinkListSpec)

/-- ITS FALSE NEIGHBOUR: 'it returns false'. Refute it at one input. -/
def fnExactShrinkListWrong : ChangeSpec := { name := "fnExactShrinkList", fn := fun _ => fun
  | [d1, d2, d3] => { results := [.lit (.bool false)], args := [d1, d2, d3] }
  | _ => none }
def FnExactShrinkListWrongFalsely : Prop := fnExactShrinkListRow.holds Try.pinned (OpenSpec.ofChange fnExactShrinkListWrong)

/-- 'laws.FnExactPlainLimit': WHATEVER THE INPUT: true; the input reads as it did. -/
def fnExactPlainLimitSpec : ChangeSpec := { name := "fnExactPlainLimit", fn := fun _ => fun
  | [d1, d2] => { results := [.lit (.bool true)], args := [d1, d2] }
  | _ => none }
def fnExactPlainLimitRow : OpenClaim := { program := "ytpckljkhmaghmaa", sum := "fc4fb1d0d68b8c6b57f2bc9ffde4210f24c18c8c05eef7ab0b81b0cbcf72b8e4", func := "loop.example/g01317/laws.FnExactPlainLimit", spec := "fnExactPlainLimit", inPlace := ["math.Float64frombits", "math.Float64bits", "math.sqrt"], apart := false }
def FnExactPlainLimitSaid : Prop := fnExactPlainLimitRow.holds Try.pinned (OpenSpec.ofChange fnExactPlainLimitSpec)

/-- ITS FALSE NEIGHBOUR: 'it returns false'. Refute it at one input. -/
def fnExactPlainLimitWrong : ChangeSpec := { name := "fnExactPlainLimit", fn := fun _ => fun
  | [d1, d2] => { results := [.lit (.bool false)], args := [d1, d2] }
  | _ => none }
def FnExactPlainLimitWrongFalsely : Prop := fnExactPlainLimitRow.holds Try.pinned (OpenSpec.ofChange fnExactPlainLimitWrong)

/-- 'laws.FnExactRiskOf': WHATEVER THE INPUT: true; the input reads as it did. -/
def fnExactRiskOfSpec : ChangeSpec := { name := "fnExactRiskOf", fn := fun _ => fun
  | [d1, d2, d3] => { results := [.lit (.bool true)], args := [d1, d2, d3] }
  | _ => none }
def fnExactRiskOfRow : OpenClaim := { program := "ytpckljkhmaghmaa", sum := "fc4fb1d0d68b8c6b57f2bc9ffde4210f24c18c8c05eef7ab0b81b0cbcf72b8e4", func := "loop.example/g01317/laws.FnExactRiskOf", spec := "fnExactRiskOf", inPlace := ["math.Float64bits", "math.Float64frombits"], apart := false }
def FnExactRiskOfSaid : Prop := fnExactRiskOfRow.holds Try.pinned (OpenSpec.ofChange fnExactRiskOfSpec)

/-- ITS FALSE NEIGHBOUR: 'it returns false'. Refute it at one input. -/
def fnExactRiskOfWrong : ChangeSpec := { name := "fnExactRiskOf", fn := fun _ => fun
  | [d1, d2, d3] => { results := [.lit (.bool false)], args := [d1, d2, d3] }
  | _ => none }
def FnExactRiskOfWrongFalsely : Prop := fnExactRiskOfRow.holds Try.pinned (OpenSpec.ofChange fnExactRiskOfWrong)

/-- 'laws.FnExactBestLimit': WHATEVER THE INPUT: true; the input reads as it did. -/
def fnExactBestLimitSpec : ChangeSpec := { name := "fnExactBestLimit", fn := fun _ => fun
  | [d1, d2] => { results := [.lit (.bool true)], args := [d1, d2] }
  | _ => none }
def fnExactBestLimitRow : OpenClaim := { program := "ytpckljkhmaghmaa", sum := "fc4fb1d0d68b8c6b57f2bc9ffde4210f24c18c8c05eef7ab0b81b0cbcf72b8e4", func := "loop.example/g01317/laws.FnExactBestLimit", spec := "fnExactBestLimit", inPlace := ["math.Float64bits", "math.Float64frombits"], apart := false }
def FnExactBestLimitSaid : Prop := fnExactBestLimitRow.holds Try.pinned (OpenSpec.ofChange fnExactBestLimitSpec)

/-- ITS FALSE NEIGHBOUR: 'it returns false'. Refute it at one input. -/
def fnExactBestLimitWrong : ChangeSpec := { name := "fnExactBestLimit", fn := fun _ => fun
  | [d1, d2] => { results := [.lit (.bool false)], args := [d1, d2] }
  | _ => none }
def FnExactBestLimitWrongFalsely : Prop := fnExactBestLimitRow.holds Try.pinned (OpenSpec.ofChange fnExactBestLimitWrong)

/-- 'laws.FnExactMissOfLists': WHATEVER THE INPUT: true; the input reads as it did. -/
def fnExactMissOfListsSpec : ChangeSpec := { name := "fnExactMissOfLists", fn := fun _ => fun
  | [d1, d2] => { results := [.lit (.bool true)], args := [d1, d2] }
  | _ => none }
def fnExactMissOfListsRow : OpenClaim := { program := "ytpckljkhmaghmaa", sum := "fc4fb1d0d68b8c6b57f2bc9ffde4210f24c18c8c05eef7ab0b81b0cbcf72b8e4", func := "loop.example/g01317/laws.FnExactMissOfLists", spec := "fnExactMissOfLists", inPlace := ["math.Float64bits", "math.Float64frombits"], apart := false }
def FnExactMissOfListsSaid : Prop := fnExactMissOfListsRow.holds Try.pinned (OpenSpec.ofChange fnExactMissOfListsSpec)

/-- ITS FALSE NEIGHBOUR: 'it returns false'. Refute it at one input. -/
def fnExactMissOfListsWrong : ChangeSpec := { name := "fnExactMissOfLists", fn := fun _ => fun
  | [d1, d2] => { results := [.lit (.bool false)], args := [d1, d2] }
  | _ => none }
def FnExactMissOfListsWrongFalsely : Prop := fnExactMissOfListsRow.holds Try.pinned (OpenSpec.ofChange fnExactMissOfListsWrong)

/-- 'laws.FnExactClearnessOf': WHATEVER THE INPUT: true; the input reads as it did. -/
def fnExactClearnessOfSpec : ChangeSpec := { name := "fnExactClearnessOf", fn := fun _ => fun
  | [d1, d2] => { results := [.lit (.bool true)], args := [d1, d2] }
  | _ => none }
def fnExactClearnessOfRow : OpenClaim := { program := "ytpckljkhmaghmaa", sum := "fc4fb1d0d68b8c6b57f2bc9ffde4210f24c18c8c05eef7ab0b81b0cbcf72b8e4", func := "loop.example/g01317/laws.FnExactClearnessOf", spec := "fnExactClearnessOf", inPlace := ["math.Float64frombits", "math.Float64bits"], apart := false }
def FnExactClearnessOfSaid : Prop := fnExactClearnessOfRow.holds Try.pinned (OpenSpec.ofChange fnExactClearnessOfSpec)

/-- ITS FALSE NEIGHBOUR: 'it returns false'. Refute it at one input. -/
def fnExactClearnessOfWrong : ChangeSpec := { name := "fnExactClearnessOf", fn := fun _ => fun
  | [d1, d2] => { results := [.lit (.bool false)], args := [d1, d2] }
  | _ => none }
def FnExactClearnessOfWrongFalsely : Prop := fnExactClearnessOfRow.holds Try.pinned (OpenSpec.ofChange fnExactClearnessOfWrong)

/-- 'laws.FnExactTrendOf': WHATEVER THE INPUT: true; the input reads as it did. -/
def fnExactTrendOfSpec : ChangeSpec := { name := "fnExactTrendOf", fn := fun _ => fun
  | [d] => { results := [.lit (.bool true)], args := [d] }
  | _ => none }
def fnExactTrendOfRow : OpenClaim := { program := "ytpckljkhmaghmaa", sum := "fc4fb1d0d68b8c6b57f2bc9ffde4210f24c18c8c05eef7ab0b81b0cbcf72b8e4", func := "loop.example/g01317/laws.FnExactTrendOf", spec := "fnExactTrendOf", inPlace := ["math.Float64bits", "math.Float64frombits"], apart := false }
def FnExactTrendOfSaid : Prop := fnExactTrendOfRow.holds Try.pinned (OpenSpec.ofChange fnExactTrendOfSpec)

/-- ITS FALSE NEIGHBOUR: 'it returns false'. Refute it at one input. -/
def fnExactTrendOfWrong : ChangeSpec := { name := "fnExactTrendOf", fn := fun _ => fun
  | [d] => { results := [.lit (.bool false)], args := [d] }
  | _ => none }
def FnExactTrendOfWrongFalsely : Prop := fnExactTrendOfRow.holds Try.pinned (OpenSpec.ofChange fnExactTrendOfWrong)

/-- 'laws.FnExactDistanceOf': WHATEVER THE INPUT: true; the input reads as it did. -/
def fnExactDistanceOfSpec : ChangeSpec := { name := "fnExactDistanceOf", fn := fun _ => fun
  | [d1, d2] => { results := [.lit (.bool true)], args := [d1, d2] }
  | _ => none }
def fnExactDistanceOfRow : OpenClaim := { program := "ytpckljkhmaghmaa", sum := "fc4fb1d0d68b8c6b57f2bc9ffde4210f24c18c8c05eef7ab0b81b0cbcf72b8e4", func := "loop.example/g01317/laws.FnExactDistanceOf", spec := "fnExactDistanceOf", inPlace := ["math.sqrt", "math.Float64bits", "math.Float64frombits"], apart := false }
def FnExactDistanceOfSaid : Prop := fnExactDistanceOfRow.holds Try.pinned (OpenSpec.ofChange fnExactDistanceOfSpec)

/-- ITS FALSE NEIGHBOUR: 'it returns false'. Refute it at one input. -/
def fnExactDistanceOfWrong : ChangeSpec := { name := "fnExactDistanceOf", fn := fun _ => fun
  | [d1, d2] => { results := [.lit (.bool false)], args := [d1, d2] }
  | _ => none }
def FnExactDistanceOfWrongFalsely : Prop := fnExactDistanceOfRow.holds Try.pinned (OpenSpec.ofChange fnExactDistanceOfWrong)

/-- 'laws.FnExactPeakRatio': WHATEVER THE INPUT: true; the input reads as it did. -/
def fnExactPeakRatioSpec : ChangeSpec := { name := "fnExactPeakRatio", fn := fun _ => fun
  | [d1, d2, d3] => { results := [.lit (.bool true)], args := [d1, d2, d3] }
  | _ => none }
def fnExactPeakRatioRow : OpenClaim := { program := "ytpckljkhmaghmaa", sum := "fc4fb1d0d68b8c6b57f2bc9ffde4210f24c18c8c05eef7ab0b81b0cbcf72b8e4", func := "loop.example/g01317/laws.FnExactPeakRatio", spec := "fnExactPeakRatio", inPlace := ["math.sqrt", "math.Float64frombits", "math.Float64bits"], apart := false }
def FnExactPeakRatioSaid : Prop := fnExactPeakRatioRow.holds Try.pinned (OpenSpec.ofChange fnExactPeakRatioSpec)

/-- ITS FALSE NEIGHBOUR: 'it returns false'. Refute it at one input. -/
def fnExactPeakRatioWrong : ChangeSpec := { name := "fnExactPeakRatio", fn := fun _ => fun
  | [d1, d2, d3] => { results := [.lit (.bool false)], args := [d1, d2, d3] }
  | _ => none }
def FnExactPeakRatioWrongFalsely : Prop := fnExactPeakRatioRow.holds Try.pinned (OpenSpec.ofChange fnExactPeakRatioWrong)

/-- 'laws.FnExactBestBreak': WHATEVER THE INPUT: true; the input reads as it did. -/
def fnExactBestBreakSpec : ChangeSpec := { name := "fnExactBestBreak", fn := fun _ => fun
  | [d] => { results := [.lit (.bool true)], args := [d] }
  | _ => none }
def fnExactBestBreakRow : OpenClaim := { program := "ytpckljkhmaghmaa", sum := "fc4fb1d0d68b8c6b57f2bc9ffde4210f24c18c8c05eef7ab0b81b0cbcf72b8e4", func := "loop.example/g01317/laws.FnExactBestBreak", spec := "fnExactBestBreak", inPlace := ["math.Float64bits", "math.Float64frombits"], unfollowed := true, recurses := true, apart := false }
def FnExactBestBreakSaid : Prop := fnExactBestBreakRow.holds Try.pinned (OpenSpec.ofChange fnExactBestBreakSpec)

/-- ITS FALSE NEIGHBOUR: 'it returns false'. Refute it at one input. -/
def fnExactBestBreakWrong : ChangeSpec := { name := "fnExactBestBreak", fn := fun _ => fun
  | [d] => { results := [.lit (.bool false)], args := [d] }
  | _ => none }
def FnExactBestBreakWrongFalsely : Prop := fnExactBestBreakRow.holds Try.pinned (OpenSpec.ofChange fnExactBestBreakWrong)

/- THE SECOND FORM. 'bulk': how many values and letters a reading holds, each counted each time it is reached (what is shared counts as often as it is met; a slice's spare places count too). A statement '..UptoSaid' is the law's where the arguments, and the package variables that the reading takes, are together of bulk at most 1048576: NARROWER than '..Said'. Prove '..Said' where nothing that the law and all that it calls make is longer than what came in: it says more and counts as full. Else prove '..UptoSaid'. A law counts once. -/
mutual
def uptoBulk {H : Type} : DataW H → Nat
  | .lit (.string bytes) => bytes.length + 1
  | .lit _ => 1
  | .nil => 1
  | .ptr d => uptoBulk d + 1
  | .slice elems spare => uptoBulkAll elems + uptoBulkAll spare + 1
  | .agg parts => uptoBulkAll parts + 1
  | .iface _ d => uptoBulk d + 1
  | .map entries => uptoBulkEntries entries + 1
  | .held _ => 1
def uptoBulkAll {H : Type} : List (DataW H) → Nat
  | [] => 0
  | d :: r => uptoBulk d + uptoBulkAll r
def uptoBulkEntries {H : Type} : List (Lit × DataW H) → Nat
  | [] => 0
  | x :: r => uptoBulkEntry x + uptoBulkEntries r
def uptoBulkEntry {H : Type} : Lit × DataW H → Nat
  | (.string bytes, d) => bytes.length + uptoBulk d + 1
  | (_, d) => uptoBulk d + 1
 end
def uptoSmall : (H : Type) → List (DataW H) → Bool := fun _ ds => decide (uptoBulkAll ds ≤ 1048576)
def OpenSpec.upto (s : _root_.Go.ChangeSpec) : _root_.Go.OpenSpec := { _root_.Go.OpenSpec.ofChange s with cond := some uptoSmall }

/-- 'laws.FnExactSoftShrink', WHERE WHAT IT READS IS OF BULK AT MOST 1048576: true; the input reads as it did. -/
def fnExactSoftShrinkUptoRow : OpenClaim := { program := "ytpckljkhmaghmaa", sum := "fc4fb1d0d68b8c6b57f2bc9ffde4210f24c18c8c05eef7ab0b81b0cbcf72b8e4", func := "loop.example/g01317/laws.FnExactSoftShrink", spec := "fnExactSoftShrink", inPlace := ["math.Float64bits", "math.Float64frombits"], unfollowed := true, recurses := true, apart := false, narrowed := true }
def FnExactSoftShrinkUptoSaid : Prop := fnExactSoftShrinkUptoRow.holds Try.pinned (OpenSpec.upto fnExactSoftShrinkSpec)

/-- 'laws.FnExactHardShrink', WHERE WHAT IT READS IS OF BULK AT MOST 1048576: true; the input reads as it did. -/
def fnExactHardShrinkUptoRow : OpenClaim := { program := "ytpckljkhmaghmaa", sum := "fc4fb1d0d68b8c6b57f2bc9ffde4210f24c18c8c05eef7ab0b81b0cbcf72b8e4", func := "loop.example/g01317/laws.FnExactHardShrink", spec := "fnExactHardShrink", inPlace := ["math.Float64bits", "math.Float64frombits"], unfollowed := true, recurses := true, apart := false, narrowed := true }
def FnExactHardShrinkUptoSaid : Prop := fnExactHardShrinkUptoRow.holds Try.pinned (OpenSpec.upto fnExactHardShrinkSpec)

/-- 'laws.FnExactShrinkList', WHERE WHAT IT READS IS OF BULK AT MOST 1048576: true; the input reads as it did. -/
def fnExactShrinkListUptoRow : OpenClaim := { program := "ytpckljkhmaghmaa", sum := "fc4fb1d0d68b8c6b57f2bc9ffde4210f24c18c8c05eef7ab0b81b0cbcf72b8e4", func := "loop.example/g01317/laws.FnExactShrinkList", spec := "fnExactShrinkList", inPlace := ["math.Float64bits", "math.Float64frombits"], unfollowed := true, recurses := true, apart := false, narrowed := true }
def FnExactShrinkListUptoSaid : Prop := fnExactShrinkListUptoRow.holds Try.pinned (OpenSpec.upto fnExactShrinkListSpec)

/-- 'laws.FnExactPlainLimit', WHERE WHAT IT READS IS OF BULK AT MOST 1048576: true; the input reads as it did. -/
def fnExactPlainLimitUptoRow : OpenClaim := { program := "ytpckljkhmaghmaa", sum := "fc4fb1d0d68b8c6b57f2bc9ffde4210f24c18c8c05eef7ab0b81b0cbcf72b8e4", func := "loop.example/g01317/laws.FnExactPlainLimit", spec := "fnExactPlainLimit", inPlace := ["math.Float64frombits", "math.Float64bits", "math.sqrt"], apart := false, narrowed := true }
def FnExactPlainLimitUptoSaid : Prop := fnExactPlainLimitUptoRow.holds Try.pinned (OpenSpec.upto fnExactPlainLimitSpec)

/-- 'laws.FnExactRiskOf', WHERE WHAT IT READS IS OF BULK AT MOST 1048576: true; the input reads as it did. -/
def fnExactRiskOfUptoRow : OpenClaim := { program := "ytpckljkhmaghmaa", sum := "fc4fb1d0d68b8c6b57f2bc9ffde4210f24c18c8c05eef7ab0b81b0cbcf72b8e4", func := "loop.example/g01317/laws.FnExactRiskOf", spec := "fnExactRiskOf", inPlace := ["math.Float64bits", "math.Float64frombits"], apart := false, narrowed := true }
def FnExactRiskOfUptoSaid : Prop := fnExactRiskOfUptoRow.holds Try.pinned (OpenSpec.upto fnExactRiskOfSpec)

/-- 'laws.FnExactBestLimit', WHERE WHAT IT READS IS OF BULK AT MOST 1048576: true; the input reads as it did. -/
def fnExactBestLimitUptoRow : OpenClaim := { program := "ytpckljkhmaghmaa", sum := "fc4fb1d0d68b8c6b57f2bc9ffde4210f24c18c8c05eef7ab0b81b0cbcf72b8e4", func := "loop.example/g01317/laws.FnExactBestLimit", spec := "fnExactBestLimit", inPlace := ["math.Float64bits", "math.Float64frombits"], apart := false, narrowed := true }
def FnExactBestLimitUptoSaid : Prop := fnExactBestLimitUptoRow.holds Try.pinned (OpenSpec.upto fnExactBestLimitSpec)

/-- 'laws.FnExactMissOfLists', WHERE WHAT IT READS IS OF BULK AT MOST 1048576: true; the input reads as it did. -/
def fnExactMissOfListsUptoRow : OpenClaim := { program := "ytpckljkhmaghmaa", sum := "fc4fb1d0d68b8c6b57f2bc9ffde4210f24c18c8c05eef7ab0b81b0cbcf72b8e4", func := "loop.example/g01317/laws.FnExactMissOfLists", spec := "fnExactMissOfLists", inPlace := ["math.Float64bits", "math.Float64frombits"], apart := false, narrowed := true }
def FnExactMissOfListsUptoSaid : Prop := fnExactMissOfListsUptoRow.holds Try.pinned (OpenSpec.upto fnExactMissOfListsSpec)

/-- 'laws.FnExactClearnessOf', WHERE WHAT IT READS IS OF BULK AT MOST 1048576: true; the input reads as it did. -/
def fnExactClearnessOfUptoRow : OpenClaim := { program := "ytpckljkhmaghmaa", sum := "fc4fb1d0d68b8c6b57f2bc9ffde4210f24c18c8c05eef7ab0b81b0cbcf72b8e4", func := "loop.example/g01317/laws.FnExactClearnessOf", spec := "fnExactClearnessOf", inPlace := ["math.Float64frombits", "math.Float64bits"], apart := false, narrowed := true }
def FnExactClearnessOfUptoSaid : Prop := fnExactClearnessOfUptoRow.holds Try.pinned (OpenSpec.upto fnExactClearnessOfSpec)

/-- 'laws.FnExactTrendOf', WHERE WHAT IT READS IS OF BULK AT MOST 1048576: true; the input reads as it did. -/
def fnExactTrendOfUptoRow : OpenClaim := { program := "ytpckljkhmaghmaa", sum := "fc4fb1d0d68b8c6b57f2bc9ffde4210f24c18c8c05eef7ab0b81b0cbcf72b8e4", func := "loop.example/g01317/laws.FnExactTrendOf", spec := "fnExactTrendOf", inPlace := ["math.Float64bits", "math.Float64frombits"], apart := false, narrowed := true }
def FnExactTrendOfUptoSaid : Prop := fnExactTrendOfUptoRow.holds Try.pinned (OpenSpec.upto fnExactTrendOfSpec)

/-- 'laws.FnExactDistanceOf', WHERE WHAT IT READS IS OF BULK AT MOST 1048576: true; the input reads as it did. -/
def fnExactDistanceOfUptoRow : OpenClaim := { program := "ytpckljkhmaghmaa", sum := "fc4fb1d0d68b8c6b57f2bc9ffde4210f24c18c8c05eef7ab0b81b0cbcf72b8e4", func := "loop.example/g01317/laws.FnExactDistanceOf", spec := "fnExactDistanceOf", inPlace := ["math.sqrt", "math.Float64bits", "math.Float64frombits"], apart := false, narrowed := true }
def FnExactDistanceOfUptoSaid : Prop := fnExactDistanceOfUptoRow.holds Try.pinned (OpenSpec.upto fnExactDistanceOfSpec)

/-- 'laws.FnExactPeakRatio', WHERE WHAT IT READS IS OF BULK AT MOST 1048576: true; the input reads as it did. -/
def fnExactPeakRatioUptoRow : OpenClaim := { program := "ytpckljkhmaghmaa", sum := "fc4fb1d0d68b8c6b57f2bc9ffde4210f24c18c8c05eef7ab0b81b0cbcf72b8e4", func := "loop.example/g01317/laws.FnExactPeakRatio", spec := "fnExactPeakRatio", inPlace := ["math.sqrt", "math.Float64frombits", "math.Float64bits"], apart := false, narrowed := true }
def FnExactPeakRatioUptoSaid : Prop := fnExactPeakRatioUptoRow.holds Try.pinned (OpenSpec.upto fnExactPeakRatioSpec)

/-- 'laws.FnExactBestBreak', WHERE WHAT IT READS IS OF BULK AT MOST 1048576: true; the input reads as it did. -/
def fnExactBestBreakUptoRow : OpenClaim := { program := "ytpckljkhmaghmaa", sum := "fc4fb1d0d68b8c6b57f2bc9ffde4210f24c18c8c05eef7ab0b81b0cbcf72b8e4", func := "loop.example/g01317/laws.FnExactBestBreak", spec := "fnExactBestBreak", inPlace := ["math.Float64bits", "math.Float64frombits"], unfollowed := true, recurses := true, apart := false, narrowed := true }
def FnExactBestBreakUptoSaid : Prop := fnExactBestBreakUptoRow.holds Try.pinned (OpenSpec.upto fnExactBestBreakSpec)

end Rows
end Go.Proofs.Ytpckljkhmaghmaa
