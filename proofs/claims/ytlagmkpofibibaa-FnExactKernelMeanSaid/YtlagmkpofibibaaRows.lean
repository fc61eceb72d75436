/-
  No cell of these rows narrows 'for every input' (looked for: loops, veiled, ifaces, maps, wideKeys, modest, calm, conditions, laid).
  DERIVED. THE GIVEN ROWS OF THIS SEAT. 11 by the template 'for every input the law returns true; each argument reads behind the call as it read before'; 0 by the template 'total and deterministic' (their statements: YtlagmkpofibibaaTotals.lean).
  GIVEN WITH THE SEED: the statements are not yours to turn. If you find one false, say at which input.
  Laid BY PROGRAM, IN A SANDBOX (cutbox-rows.mjs): the forced cells as the released guide's own fill.sh prints them over the translation 7217b9d4998ba5e2… (all of the seat's roots in one cut). By AI agents, Wed Nov 11 2026. No macro, syntax, notation, axiom, sorry.
-/
import Derived.Test.YtlagmkpofibibaaChecked
import GoSem.Claim
import GoSem.ClaimJoined
import GoSem.ClaimMapViews
import Derived.JoinedTies
import Derived.KernelRfl
namespace Go.Proofs.Ytlagmkpofibibaa
/- THE CELL 'sum', in the pinned program and in every row, IS THE sha256 OF THE DUMP (.gsa) THAT YtlagmkpofibibaaProg.lean LOADS. Nothing in Lean hashes anything: it is a label: what it is worth is what the hold of that sum in a sandbox is worth. -/
noncomputable def Try.pinned : Pinned := { name := "ytlagmkpofibibaa", sum := "7217b9d4998ba5e20517325f2c73ca894b2fd24c25499f8f52ef126af7223512", checked := Try.checked }
namespace Rows
def none {H : Type} : Left H := { results := [], args := [] }

/-- 'laws.FnExactKernelMean': WHATEVER THE INPUT: true; the input reads as it did. -/
def fnExactKernelMeanSpec : ChangeSpec := { name := "fnExactKernelMean", fn := fun _ => fun
  | [d1, d2, d3, d4] => { results := [.lit (.bool true)], args := [d1, d2, d3, d4] }
  | _ => none }
def fnExactKernelMeanRow : OpenClaim := { program := "ytlagmkpofibibaa", sum := "7217b9d4998ba5e20517325f2c73ca894b2fd24c25499f8f52ef126af7223512", func := "loop.example/g01317/laws.FnExactKernelMean", spec := "fnExactKernelMean", inPlace := ["math.Float64frombits", "math.Float64bits"], apart := false }
def FnExactKernelMeanSaid : Prop := fnExactKernelMeanRow.holds Try.pinned (OpenSpec.ofChange fnExactKernelMeanSpec)

/-- ITS FALSE NEIGHBOUR: 'it returns false'. Refute it at one input. -/
def fnExactKernelMeanWrong : ChangeSpec := { name := "fnExactKernelMean", fn := fun _ => fun
  | [d1, d2, d3, d4] => { results := [.lit (.bool false)], args := [d1, d2, d3, d4] }
  | _ => none }
def FnExactKernelMeanWrongFalsely : Prop := fnExactKernelMeanRow.holds Try.pinned (OpenSpec.ofChange fnExactKernelMeanWrong)

/-- 'laws.FnExactSegmentMeans': WHATEVER THE INPUT: true; the input reads as it did. -/
def fnExactSegmentMeansSpec : ChangeSpec := { name := "fnExactSegmentMeans", fn := fun _ => fun
  | [d1, d2] => { results := [.lit (.bool true)], args := [d1, d2] }
  | _ => none }
def fnExactSegmentMeansRow : OpenClaim := { program := "ytlagmkpofibibaa", sum := "7217b9d4998ba5e20517325f2c73ca894b2fd24c25499f8f52ef126af7223512", func := "loop.example/g01317/laws.FnExactSegmentMeans", spec := "fnExactSegmentMeans", inPlace := ["math.Float64bits", "math.Float64frombits"], unfollowed := true, recurses := true, apart := false }
def FnExactSegmentMeansSaid : Prop := fnExactSegmentMeansRow.holds Try.pinned (OpenSpec.ofChange fnExactSegmentMeansSpec)

/-- ITS FALSE NEIGHBOUR: 'it returns false'. Refute it at one input. -/
def fnExactSegmentMeansWrong : ChangeSpec := { name := "fnExactSegmentMeans", fn := fun _ => fun
  | [d1, d2] => { results := [.lit (.bool false)], args := [d1, d2] }
  | _ => none }
def FnExactSegmentMeansWrongFalsely : Prop := fnExactSegmentMeansRow.holds Try.pinned (OpenSpec.ofChange fnExactSegmentMeansWrong)

/-- 'laws.FnExactSeasonOf': WHATEVER THE INPUT: true; the input reads as it did. -/
def fnExactSeasonOfSpec : ChangeSpec := { name := "fnExactSeasonOf", fn := fun _ => fun
  | [d1, d2] => { results := [.lit (.bool true)], args := [d1, d2] }
  | _ => none }
def fnExactSeasonOfRow : OpenClaim := { program := "ytlagmkpofibibaa", sum := "7217b9d4998ba5e20517325f2c73ca894b2fd24c25499f8f52ef126af7223512", func := "loop.example/g01317/laws.FnExactSeasonOf", spec := "fnExactSeasonOf", inPlace := ["math.Float64bits", "math.Float64frombits"], apart := false }
def FnExactSeasonOfSaid : Prop := fnExactSeasonOfRow.holds Try.pinned (OpenSpec.ofChange fnExactSeasonOfSpec)

/-- ITS FALSE NEIGHBOUR: 'it returns false'. Refute it at one input. -/
def fnExactSeasonOfWrong : ChangeSpec := { name := "fnExactSeasonOf", fn := fun _ => fun
  | [d1, d2] => { results := [.lit (.bool false)], args := [d1, d2] }
  | _ => none }
def FnExactSeasonOfWrongFalsely : Prop := fnExactSeasonOfRow.holds Try.pinned (OpenSpec.ofChange fnExactSeasonOfWrong)

/-- 'laws.FnExactWithoutSeason': WHATEVER THE INPUT: true; the input reads as it did. -/
def fnExactWithoutSeasonSpec : ChangeSpec := { name := "fnExactWithoutSeason", fn := fun _ => fun
  | [d1, d2] => { results := [.lit (.bool true)], args := [d1, d2] }
  | _ => none }
def fnExactWithoutSeasonRow : OpenClaim := { program := "ytlagmkpofibibaa", sum := "7217b9d4998ba5e20517325f2c73ca894b2fd24c25499f8f52ef126af7223512", func := "loop.example/g01317/laws.FnExactWithoutSeason", spec := "fnExactWithoutSeason", inPlace := ["math.Float64bits", "math.Float64frombits"], apart := false }
def FnExactWithoutSeasonSaid : Prop := fnExactWithoutSeasonRow.holds Try.pinned (OpenSpec.ofChange fnExactWithoutSeasonSpec)

/-- ITS FALSE NEIGHBOUR: 'it returns false'. Refute it at one input. -/
def fnExactWithoutSeasonWrong : ChangeSpec := { name := "fnExactWithoutSeason", fn := fun _ => fun
  | [d1, d2] => { results := [.lit (.bool false)], args := [d1, d2] }
  | _ => none }
def FnExactWithoutSeasonWrongFalsely : Prop := fnExactWithoutSeasonRow.holds Try.pinned (OpenSpec.ofChange fnExactWithoutSeasonWrong)

/-- 'laws.FnExactMedianOf': WHATEVER THE INPUT: true; the input reads as it did. -/
def fnExactMedianOfSpec : ChangeSpec := { name := "fnExactMedianOf", fn := fun _ => fun
  | [d] => { results := [.lit (.bool true)], args := [d] }
  | _ => none }
def fnExactMedianOfRow : OpenClaim := { program := "ytlagmkpofibibaa", sum := "7217b9d4998ba5e20517325f2c73ca894b2fd24c25499f8f52ef126af7223512", func := "loop.example/g01317/laws.FnExactMedianOf", spec := "fnExactMedianOf", inPlace := ["math.Float64bits", "math.Float64frombits", "slices.overlaps[float32]"], unfollowed := true, recurses := true, apart := false }
def FnExactMedianOfSaid : Prop := fnExactMedianOfRow.holds Try.pinned (OpenSpec.ofChange fnExactMedianOfSpec)

/-- ITS FALSE NEIGHBOUR: 'it returns false'. Refute it at one input. -/
def fnExactMedianOfWrong : ChangeSpec := { name := "fnExactMedianOf", fn := fun _ => fun
  | [d] => { results := [.lit (.bool false)], args := [d] }
  | _ => none }
def FnExactMedianOfWrongFalsely : Prop := fnExactMedianOfRow.holds Try.pinned (OpenSpec.ofChange fnExactMedianOfWrong)

/-- 'laws.FnExactSpreadOf': WHATEVER THE INPUT: true; the input reads as it did. -/
def fnExactSpreadOfSpec : ChangeSpec := { name := "fnExactSpreadOf", fn := fun _ => fun
  | [d] => { results := [.lit (.bool true)], args := [d] }
  | _ => none }
def fnExactSpreadOfRow : OpenClaim := { program := "ytlagmkpofibibaa", sum := "7217b9d4998ba5e20517325f2c73ca894b2fd24c25499f8f52ef126af7223512", func := "loop.example/g01317/laws.FnExactSpreadOf", spec := "fnExactSpreadOf", inPlace := ["math.Float64bits", "math.Float64frombits", "slices.overlaps[float32]"], unfollowed := true, recurses := true, apart := false }
def FnExactSpreadOfSaid : Prop := fnExactSpreadOfRow.holds Try.pinned (OpenSpec.ofChange fnExactSpreadOfSpec)

/-- ITS FALSE NEIGHBOUR: 'it returns false'. Refute it at one input. -/
def fnExactSpreadOfWrong : ChangeSpec := { name := "fnExactSpreadOf", fn := fun _ => fun
  | [d] => { results := [.lit (.bool false)], args := [d] }
  | _ => none }
def FnExactSpreadOfWrongFalsely : Prop := fnExactSpreadOfRow.holds Try.pinned (OpenSpec.ofChange fnExactSpreadOfWrong)

/-- 'laws.FnExactBlockShrink': WHATEVER THE INPUT: true; the input reads as it did. -/
def fnExactBlockShrinkSpec : ChangeSpec := { name := "fnExactBlockShrink", fn := fun _ => fun
  | [d1, d2, d3] => { results := [.lit (.bool true)], args := [d1, d2, d3] }
  | _ => none }
def fnExactBlockShrinkRow : OpenClaim := { program := "ytlagmkpofibibaa", sum := "7217b9d4998ba5e20517325f2c73ca894b2fd24c25499f8f52ef126af7223512", func := "loop.example/g01317/laws.FnExactBlockShrink", spec := "fnExactBlockShrink", inPlace := ["math.Float64bits", "math.Float64frombits"], unfollowed := true, recurses := true, apart := false }
def FnExactBlockShrinkSaid : Prop := fnExactBlockShrinkRow.holds Try.pinned (OpenSpec.ofChange fnExactBlockShrinkSpec)

/-- ITS FALSE NEIGHBOUR: 'it returns false'. Refute it at one input. -/
def fnExactBlockShrinkWrong : ChangeSpec := { name := "fnExactBlockShrink", fn := fun _ => fun
  | [d1, d2, d3] => { results := [.lit (.bool false)], args := [d1, d2, d3] }
  | _ => none }
def FnExactBlockShrinkWrongFalsely : Prop := fnExactBlockShrinkRow.holds Try.pinned (OpenSpec.ofChange fnExactBlockShrinkWrong)

/-- 'laws.FnExactBreaksOf': WHATEVER THE INPUT: true; the input reads as it did. -/
def fnExactBreaksOfSpec : ChangeSpec := { name := "fnExactBreaksOf", fn := fun _ => fun
  | [d1, d2, d3] => { results := [.lit (.bool true)], args := [d1, d2, d3] }
  | _ => none }
def fnExactBreaksOfRow : OpenClaim := { program := "ytlagmkpofibibaa", sum := "7217b9d4998ba5e20517325f2c73ca894b2fd24c25499f8f52ef126af7223512", func := "loop.example/g01317/laws.FnExactBreaksOf", spec := "fnExactBreaksOf", inPlace := ["math.Float64bits", "math.Float64frombits", "slices.overlaps[int64]"], unfollowed := true, recurses := true, apart := false }
def FnExactBreaksOfSaid : Prop := fnExactBreaksOfRow.holds Try.pinned (OpenSpec.ofChange fnExactBreaksOfSpec)

/-- ITS FALSE NEIGHBOUR: 'it returns false'. Refute it at one input. -/
def fnExactBreaksOfWrong : ChangeSpec := { name := "fnExactBreaksOf", fn := fun _ => fun
  | [d1, d2, d3] => { results := [.lit (.bool false)], args := [d1, d2, d3] }
  | _ => none }
def FnExactBreaksOfWrongFalsely : Prop := fnExactBreaksOfRow.holds Try.pinned (OpenSpec.ofChange fnExactBreaksOfWrong)

/-- 'laws.FnExactNoiseOf': WHATEVER THE INPUT: true; the input reads as it did. -/
def fnExactNoiseOfSpec : ChangeSpec := { name := "fnExactNoiseOf", fn := fun _ => fun
  | [d] => { results := [.lit (.bool true)], args := [d] }
  | _ => none }
def fnExactNoiseOfRow : OpenClaim := { program := "ytlagmkpofibibaa", sum := "7217b9d4998ba5e20517325f2c73ca894b2fd24c25499f8f52ef126af7223512", func := "loop.example/g01317/laws.FnExactNoiseOf", spec := "fnExactNoiseOf", inPlace := ["math.Float64bits", "math.Float64frombits", "slices.overlaps[float32]"], unfollowed := true, recurses := true, apart := false }
def FnExactNoiseOfSaid : Prop := fnExactNoiseOfRow.holds Try.pinned (OpenSpec.ofChange fnExactNoiseOfSpec)

/-- ITS FALSE NEIGHBOUR: 'it returns false'. Refute it at one input. -/
def fnExactNoiseOfWrong : ChangeSpec := { name := "fnExactNoiseOf", fn := fun _ => fun
  | [d] => { results := [.lit (.bool false)], args := [d] }
  | _ => none }
def FnExactNoiseOfWrongFalsely : Prop := fnExactNoiseOfRow.holds Try.pinned (OpenSpec.ofChange fnExactNoiseOfWrong)

/-- 'laws.FnExactShrinkBands': WHATEVER THE INPUT: true; the input reads as it did. -/
def fnExactShrinkBandsSpec : ChangeSpec := { name := "fnExactShrinkBands", fn := fun _ => fun
  | [d1, d2, d3] => { results := [.lit (.bool true)], args := [d1, d2, d3] }
  | _ => none }
def fnExactShrinkBandsRow : OpenClaim := { program := "ytlagmkpofibibaa", sum := "7217b9d4998ba5e20517325f2c73ca894b2fd24c25499f8f52ef126af7223512", func := "loop.example/g01317/laws.FnExactShrinkBands", spec := "fnExactShrinkBands", inPlace := ["math.Float64bits", "math.Float64frombits"], unfollowed := true, recurses := true, apart := false }
def FnExactShrinkBandsSaid : Prop := fnExactShrinkBandsRow.holds Try.pinned (OpenSpec.ofChange fnExactShrinkBandsSpec)

/-- ITS FALSE NEIGHBOUR: 'it returns false'. Refute it at one input. -/
def fnExactShrinkBandsWrong : ChangeSpec := { name := "fnExactShrinkBands", fn := fun _ => fun
  | [d1, d2, d3] => { results := [.lit (.bool false)], args := [d1, d2, d3] }
  | _ => none }
def FnExactShrinkBandsWrongFalsely : Prop := fnExactShrinkBandsRow.holds Try.pinned (OpenSpec.ofChange fnExactShrinkBandsWrong)

/-- 'laws.FnExactAtomList': WHATEVER THE INPUT: true; the input reads as it did. -/
def fnExactAtomListSpec : ChangeSpec := { name := "fnExactAtomList", fn := fun _ => fun
  | [d1, d2] => { results := [.lit (.bool true)], args := [d1, d2] }
  | _ => none }
def fnExactAtomListRow : OpenClaim := { program := "ytlagmkpofibibaa", sum := "7217b9d4998ba5e20517325f2c73ca894b2fd24c25499f8f52ef126af7223512", func := "loop.example/g01317/laws.FnExactAtomList", spec := "fnExactAtomList", inPlace := ["math.archCeil", "math.archFloor", "math.Float64bits", "math.Float64frombits", "math.archTrunc", "math.Float32frombits", "math.sqrt"], apart := false }
def FnExactAtomListSaid : Prop := fnExactAtomListRow.holds Try.pinned (OpenSpec.ofChange fnExactAtomListSpec)

/-- ITS FALSE NEIGHBOUR: 'it returns false'. Refute it at one input. -/
def fnExactAtomListWrong : ChangeSpec := { name := "fnExactAtomList", fn := fun _ => fun
  | [d1, d2] => { results := [.lit (.bool false)], args := [d1, d2] }
  | _ => none }
def FnExactAtomListWrongFalsely : Prop := fnExactAtomListRow.holds Try.pinned (OpenSpec.ofChange fnExactAtomListWrong)

/- THE SECOND FORM. 'bulk': how many values and letters a reading holds, each counted each time it is reached (what is shared counts as often as it is met; a slice's spare places count too). A statement '..UptoSaid' is the law's where the arguments, and the package variables that the reading takes, are together of bulk at most 1048576: NARROWER than '..Said'. Prove '..Said' where nothing that the law and all that it calls make is longer than what came in: it says more and counts as full. Else prove '..UptoSaid'. A law counts once. -/
mutual
def uptoBulk {H : Type} : DataW H → Nat
  | .lit (.string bytes) => bytes.length + 1
  | .lit _ => 1
  | .nil => 1
  | .ptr d => uptoBulk d + 1
  | .slice elems spare => uptoBulkAll elems + uptoBulkAll spare + 1
  | .agg parts => uptoBulkAll parts + 1
  | .iface _ d => uptoBulk d + 1
  | .map entries => uptoBulkEntries entries + 1
  | .held _ => 1
def uptoBulkAll {H : Type} : List (DataW H) → Nat
  | [] => 0
  | d :: r => uptoBulk d + uptoBulkAll r
def uptoBulkEntries {H : Type} : List (Lit × DataW H) → Nat
  | [] => 0
  | x :: r => uptoBulkEntry x + uptoBulkEntries r
def uptoBulkEntry {H : Type} : Lit × DataW H → Nat
  | (.string bytes, d) => bytes.length + uptoBulk d + 1
  | (_, d) => uptoBulk d + 1
 end
def uptoSmall : (H : Type) → List (DataW H) → Bool := fun _ ds => decide (uptoBulkAll ds ≤ 1048576)
def OpenSpec.upto (s : _root_.Go.ChangeSpec) : _root_.Go.OpenSpec := { _root_.Go.OpenSpec.ofChange s with cond := some uptoSmall }

/-- 'laws.FnExactKernelMean', WHERE WHAT IT READS IS OF BULK AT MOST 1048576: true; the input reads as it did. -/
def fnExactKernelMeanUptoRow : OpenClaim := { program := "ytlagmkpofibibaa", sum := "7217b9d4998ba5e20517325f2c73ca894b2fd24c25499f8f52ef126af7223512", func := "loop.example/g01317/laws.FnExactKernelMean", spec := "fnExactKernelMean", inPlace := ["math.Float64frombits", "math.Float64bits"], apart := false, narrowed := true }
def FnExactKernelMeanUptoSaid : Prop := fnExactKernelMeanUptoRow.holds Try.pinned (OpenSpec.upto fnExactKernelMeanSpec)

/-- 'laws.FnExactSegmentMeans', WHERE WHAT IT READS IS OF BULK AT MOST 1048576: true; the input reads as it did. -/
def fnExactSegmentMeansUptoRow : OpenClaim := { program := "ytlagmkpofibibaa", sum := "7217b9d4998ba5e20517325f2c73ca894b2fd24c25499f8f52ef126af7223512", func := "loop.example/g01317/laws.FnExactSegmentMeans", spec := "fnExactSegmentMeans", inPlace := ["math.Float64bits", "math.Float64frombits"], unfollowed := true, recurses := true, apart := false, narrowed := true }
def FnExactSegmentMeansUptoSaid : Prop := fnExactSegmentMeansUptoRow.holds Try.pinned (OpenSpec.upto fnExactSegmentMeansSpec)

/-- 'laws.FnExactSeasonOf', WHERE WHAT IT READS IS OF BULK AT MOST 1048576: true; the input reads as it did. -/
def fnExactSeasonOfUptoRow : OpenClaim := { program := "ytlagmkpofibibaa", sum := "7217b9d4998ba5e20517325f2c73ca894b2fd24c25499f8f52ef126af7223512", func := "loop.example/g01317/laws.FnExactSeasonOf", spec := "fnExactSeasonOf", inPlace := ["math.Float64bits", "math.Float64frombits"], apart := false, narrowed := true }
def FnExactSeasonOfUptoSaid : Prop := fnExactSeasonOfUptoRow.holds Try.pinned (OpenSpec.upto fnExactSeasonOfSpec)

/-- 'laws.FnExactWithoutSeason', WHERE WHAT IT READS IS OF BULK AT MOST 1048576: true; the input reads as it did. -/
def fnExactWithoutSeasonUptoRow : OpenClaim := { program := "ytlagmkpofibibaa", sum := "7217b9d4998ba5e20517325f2c73ca894b2fd24c25499f8f52ef126af7223512", func := "loop.example/g01317/laws.FnExactWithoutSeason", spec := "fnExactWithoutSeason", inPlace := ["math.Float64bits", "math.Float64frombits"], apart := false, narrowed := true }
def FnExactWithoutSeasonUptoSaid : Prop := fnExactWithoutSeasonUptoRow.holds Try.pinned (OpenSpec.upto fnExactWithoutSeasonSpec)

/-- 'laws.FnExactMedianOf', WHERE WHAT IT READS IS OF BULK AT MOST 1048576: true; the input reads as it did. -/
def fnExactMedianOfUptoRow : OpenClaim := { program := "ytlagmkpofibibaa", sum := "7217b9d4998ba5e20517325f2c73ca894b2fd24c25499f8f52ef126af7223512", func := "loop.example/g01317/laws.FnExactMedianOf", spec := "fnExactMedianOf", inPlace := ["math.Float64bits", "math.Float64frombits", "slices.overlaps[float32]"], unfollowed := true, recurses := true, apart := false, narrowed := true }
def FnExactMedianOfUptoSaid : Prop := fnExactMedianOfUptoRow.holds Try.pinned (OpenSpec.upto fnExactMedianOfSpec)

/-- 'laws.FnExactSpreadOf', WHERE WHAT IT READS IS OF BULK AT MOST 1048576: true; the input reads as it did. -/
def fnExactSpreadOfUptoRow : OpenClaim := { program := "ytlagmkpofibibaa", sum := "7217b9d4998ba5e20517325f2c73ca894b2fd24c25499f8f52ef126af7223512", func := "loop.example/g01317/laws.FnExactSpreadOf", spec := "fnExactSpreadOf", inPlace := ["math.Float64bits", "math.Float64frombits", "slices.overlaps[float32]"], unfollowed := true, recurses := true, apart := false, narrowed := true }
def FnExactSpreadOfUptoSaid : Prop := fnExactSpreadOfUptoRow.holds Try.pinned (OpenSpec.upto fnExactSpreadOfSpec)

/-- 'laws.FnExactBlockShrink', WHERE WHAT IT READS IS OF BULK AT MOST 1048576: true; the input reads as it did. -/
def fnExactBlockShrinkUptoRow : OpenClaim := { program := "ytlagmkpofibibaa", sum := "7217b9d4998ba5e20517325f2c73ca894b2fd24c25499f8f52ef126af7223512", func := "loop.example/g01317/laws.FnExactBlockShrink", spec := "fnExactBlockShrink", inPlace := ["math.Float64bits", "math.Float64frombits"], unfollowed := true, recurses := true, apart := false, narrowed := true }
def FnExactBlockShrinkUptoSaid : Prop := fnExactBlockShrinkUptoRow.holds Try.pinned (OpenSpec.upto fnExactBlockShrinkSpec)

/-- 'laws.FnExactBreaksOf', WHERE WHAT IT READS IS OF BULK AT MOST 1048576: true; the input reads as it did. -/
def fnExactBreaksOfUptoRow : OpenClaim := { program := "ytlagmkpofibibaa", sum := "7217b9d4998ba5e20517325f2c73ca894b2fd24c25499f8f52ef126af7223512", func := "loop.example/g01317/laws.FnExactBreaksOf", spec := "fnExactBreaksOf", inPlace := ["math.Float64bits", "math.Float64frombits", "slices.overlaps[int64]"], unfollowed := true, recurses := true, apart := false, narrowed := true }
def FnExactBreaksOfUptoSaid : Prop := fnExactBreaksOfUptoRow.holds Try.pinned (OpenSpec.upto fnExactBreaksOfSpec)

/-- 'laws.FnExactNoiseOf', WHERE WHAT IT READS IS OF BULK AT MOST 1048576: true; the input reads as it did. -/
def fnExactNoiseOfUptoRow : OpenClaim := { program := "ytlagmkpofibibaa", sum := "7217b9d4998ba5e20517325f2c73ca894b2fd24c25499f8f52ef126af7223512", func := "loop.example/g01317/laws.FnExactNoiseOf", spec := "fnExactNoiseOf", inPlace := ["math.Float64bits", "math.Float64frombits", "slices.overlaps[float32]"], unfollowed := true, recurses := true, apart := false, narrowed := true }
def FnExactNoiseOfUptoSaid : Prop := fnExactNoiseOfUptoRow.holds Try.pinned (OpenSpec.upto fnExactNoiseOfSpec)

/-- 'laws.FnExactShrinkBands', WHERE WHAT IT READS IS OF BULK AT MOST 1048576: true; the input reads as it did. -/
def fnExactShrinkBandsUptoRow : OpenClaim := { program := "ytlagmkpofibibaa", sum := "7217b9d4998ba5e20517325f2c73ca894b2fd24c25499f8f52ef126af7223512", func := "loop.example/g01317/laws.FnExactShrinkBands", spec := "fnExactShrinkBands", inPlace := ["math.Float64bits", "math.Float64frombits"], unfollowed := true, recurses := true, apart := false, narrowed := true }
def FnExactShrinkBandsUptoSaid : Prop := fnExactShrinkBandsUptoRow.holds Try.pinned (OpenSpec.upto fnExactShrinkBandsSpec)

/-- 'laws.FnExactAtomList', WHERE WHAT IT READS IS OF BULK AT MOST 1048576: true; the input reads as it did. -/
def fnExactAtomListUptoRow : OpenClaim := { program := "ytlagmkpofibibaa", sum := "7217b9d4998ba5e20517325f2c73ca894b2fd24c25499f8f52ef126af7223512", func := "loop.example/g01317/laws.FnExactAtomList", spec := "fnExactAtomList", inPlace := ["math.archCeil", "math.archFloor", "math.Float64bits", "math.Float64frombits", "math.archTrunc", "math.Float32frombits", "math.sqrt"], apart := false, narrowed := true }
def FnExactAtomListUptoSaid : Prop := fnExactAtomListUptoRow.holds Try.pinned (OpenSpec.upto fnExactAtomListSpec)

end Rows
end Go.Proofs.Ytlagmkpofibibaa
