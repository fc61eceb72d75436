/-
  No cell of these rows narrows 'for every input' (looked for: loops, veiled, ifaces, maps, wideKeys, modest, calm, conditions, laid).
  DERIVED. THE GIVEN ROWS OF THIS SEAT. 11 by the template 'for every input the law returns true; each argument reads behind the call as it read before'; 0 by the template 'total and deterministic' (their statements: YtfhngajodfjkeabTotals.lean).
  GIVEN WITH THE SEED: the statements are not yours to turn. If you find one false, say at which input.
  Laid BY PROGRAM, IN A SANDBOX (cutbox-rows.mjs): the forced cells as the released guide's own fill.sh prints them over the translation 924e1175c6f4fce0… (all of the seat's roots in one cut). By AI agents, Wed Nov 11 2026. No macro, syntax, notation, axiom, sorry.
-/
import Derived.Test.YtfhngajodfjkeabChecked
import GoSem.Claim
import GoSem.ClaimJoined
import GoSem.ClaimMapViews
import Derived.JoinedTies
import Derived.KernelRfl
namespace Go.Proofs.Ytfhngajodfjkeab
/- THE CELL 'sum', in the pinned program and in every row, IS THE sha256 OF THE DUMP (.gsa) THAT YtfhngajodfjkeabProg.lean LOADS. Nothing in Lean hashes anything: it is a label: what it is worth is what the hold of that sum in a sandbox is worth. -/
noncomputable def Try.pinned : Pinned := { name := "ytfhngajodfjkeab", sum := "924e1175c6f4fce0a53ed3fd07ae30eac86c59e279a3170a819c848e3ed21bed", checked := Try.checked }
namespace Rows
def none {H : Type} : Left H := { results := [], args := [] }

/-- 'laws.FnExactMaximaOf': WHATEVER THE INPUT: true; the input reads as it did. -/
def fnExactMaximaOfSpec : ChangeSpec := { name := "fnExactMaximaOf", fn := fun _ => fun
  | [d] => { results := [.lit (.bool true)], args := [d] }
  | _ => none }
def fnExactMaximaOfRow : OpenClaim := { program := "ytfhngajodfjkeab", sum := "924e1175c6f4fce0a53ed3fd07ae30eac86c59e279a3170a819c848e3ed21bed", func := "loop.example/g01317/laws.FnExactMaximaOf", spec := "fnExactMaximaOf", inPlace := ["math.Float64bits", "math.Float64frombits"], apart := false }
def FnExactMaximaOfSaid : Prop := fnExactMaximaOfRow.holds Try.pinned (OpenSpec.ofChange fnExactMaximaOfSpec)

/-- ITS FALSE NEIGHBOUR: 'it returns false'. Refute it at one input. -/
def fnExactMaximaOfWrong : ChangeSpec := { name := "fnExactMaximaOf", fn := fun _ => fun
  | [d] => { results := [.lit (.bool false)], args := [d] }
  | _ => none }
def FnExactMaximaOfWrongFalsely : Prop := fnExactMaximaOfRow.holds Try.pinned (OpenSpec.ofChange fnExactMaximaOfWrong)

/-- 'laws.FnExactRidgeOf': WHATEVER THE INPUT: true; the input reads as it did. -/
def fnExactRidgeOfSpec : ChangeSpec := { name := "fnExactRidgeOf", fn := fun _ => fun
  | [d] => { results := [.lit (.bool true)], args := [d] }
  | _ => none }
def fnExactRidgeOfRow : OpenClaim := { program := "ytfhngajodfjkeab", sum := "924e1175c6f4fce0a53ed3fd07ae30eac86c59e279a3170a819c848e3ed21bed", func := "loop.example/g01317/laws.FnExactRidgeOf", spec := "fnExactRidgeOf", inPlace := ["math.Float64bits", "math.Float64frombits"], unfollowed := true, recurses := true, apart := false }
def FnExactRidgeOfSaid : Prop := fnExactRidgeOfRow.holds Try.pinned (OpenSpec.ofChange fnExactRidgeOfSpec)

/-- ITS FALSE NEIGHBOUR: 'it returns false'. Refute it at one input. -/
def fnExactRidgeOfWrong : ChangeSpec := { name := "fnExactRidgeOf", fn := fun _ => fun
  | [d] => { results := [.lit (.bool false)], args := [d] }
  | _ => none }
def FnExactRidgeOfWrongFalsely : Prop := fnExactRidgeOfRow.holds Try.pinned (OpenSpec.ofChange fnExactRidgeOfWrong)

/-- 'laws.FnExactLinkMaxima': WHATEVER THE INPUT: true; the input reads as it did. -/
def fnExactLinkMaximaSpec : ChangeSpec := { name := "fnExactLinkMaxima", fn := fun _ => fun
  | [d1, d2] => { results := [.lit (.bool true)], args := [d1, d2] }
  | _ => none }
def fnExactLinkMaximaRow : OpenClaim := { program := "ytfhngajodfjkeab", sum := "924e1175c6f4fce0a53ed3fd07ae30eac86c59e279a3170a819c848e3ed21bed", func := "loop.example/g01317/laws.FnExactLinkMaxima", spec := "fnExactLinkMaxima", inPlace := ["math.Float64bits", "math.Float64frombits"], unfollowed := true, recurses := true, apart := false }
def FnExactLinkMaximaSaid : Prop := fnExactLinkMaximaRow.holds Try.pinned (OpenSpec.ofChange fnExactLinkMaximaSpec)

/-- ITS FALSE NEIGHBOUR: 'it returns false'. Refute it at one input. -/
def fnExactLinkMaximaWrong : ChangeSpec := { name := "fnExactLinkMaxima", fn := fun _ => fun
  | [d1, d2] => { results := [.lit (.bool false)], args := [d1, d2] }
  | _ => none }
def FnExactLinkMaximaWrongFalsely : Prop := fnExactLinkMaximaRow.holds Try.pinned (OpenSpec.ofChange fnExactLinkMaximaWrong)

/-- 'laws.FnExactFromFrame': WHATEVER THE INPUT: true; the input reads as it did. -/
def fnExactFromFrameSpec : ChangeSpec := { name := "fnExactFromFrame", fn := fun _ => fun
  | [d] => { results := [.lit (.bool true)], args := [d] }
  | _ => none }
def fnExactFromFrameRow : OpenClaim := { program := "ytfhngajodfjkeab", sum := "924e1175c6f4fce0a53ed3fd07ae30eac86c59e279a3170a819c848e3ed21bed", func := "loop.example/g01317/laws.FnExactFromFrame", spec := "fnExactFromFrame", inPlace := ["math.Float64bits", "math.Float64frombits"], unfollowed := true, recurses := true, apart := false }
def FnExactFromFrameSaid : Prop := fnExactFromFrameRow.holds Try.pinned (OpenSpec.ofChange fnExactFromFrameSpec)

/-- ITS FALSE NEIGHBOUR: 'it returns false'. Refute it at one input. -/
def fnExactFromFrameWrong : ChangeSpec := { name := "fnExactFromFrame", fn := fun _ => fun
  | [d] => { results := [.lit (.bool false)], args := [d] }
  | _ => none }
def FnExactFromFrameWrongFalsely : Prop := fnExactFromFrameRow.holds Try.pinned (OpenSpec.ofChange fnExactFromFrameWrong)

/-- 'laws.FnExactFrameOf': WHATEVER THE INPUT: true; the input reads as it did. -/
def fnExactFrameOfSpec : ChangeSpec := { name := "fnExactFrameOf", fn := fun _ => fun
  | [d1, d2] => { results := [.lit (.bool true)], args := [d1, d2] }
  | _ => none }
def fnExactFrameOfRow : OpenClaim := { program := "ytfhngajodfjkeab", sum := "924e1175c6f4fce0a53ed3fd07ae30eac86c59e279a3170a819c848e3ed21bed", func := "loop.example/g01317/laws.FnExactFrameOf", spec := "fnExactFrameOf", inPlace := ["math.Float64bits", "math.Float64frombits"], unfollowed := true, recurses := true, apart := false }
def FnExactFrameOfSaid : Prop := fnExactFrameOfRow.holds Try.pinned (OpenSpec.ofChange fnExactFrameOfSpec)

/-- ITS FALSE NEIGHBOUR: 'it returns false'. Refute it at one input. -/
def fnExactFrameOfWrong : ChangeSpec := { name := "fnExactFrameOf", fn := fun _ => fun
  | [d1, d2] => { results := [.lit (.bool false)], args := [d1, d2] }
  | _ => none }
def FnExactFrameOfWrongFalsely : Prop := fnExactFrameOfRow.holds Try.pinned (OpenSpec.ofChange fnExactFrameOfWrong)

/-- 'laws.FnExactKeepBands': WHATEVER THE INPUT: true; the input reads as it did. -/
def fnExactKeepBandsSpec : ChangeSpec := { name := "fnExactKeepBands", fn := fun _ => fun
  | [d1, d2, d3] => { results := [.lit (.bool true)], args := [d1, d2, d3] }
  | _ => none }
def fnExactKeepBandsRow : OpenClaim := { program := "ytfhngajodfjkeab", sum := "924e1175c6f4fce0a53ed3fd07ae30eac86c59e279a3170a819c848e3ed21bed", func := "loop.example/g01317/laws.FnExactKeepBands", spec := "fnExactKeepBands", inPlace := ["math.Float64bits", "math.Float64frombits"], unfollowed := true, recurses := true, apart := false }
def FnExactKeepBandsSaid : Prop := fnExactKeepBandsRow.holds Try.pinned (OpenSpec.ofChange fnExactKeepBandsSpec)

/-- ITS FALSE NEIGHBOUR: 'it returns false'. Refute it at one input. -/
def fnExactKeepBandsWrong : ChangeSpec := { name := "fnExactKeepBands", fn := fun _ => fun
  | [d1, d2, d3] => { results := [.lit (.bool false)], args := [d1, d2, d3] }
  | _ => none }
def FnExactKeepBandsWrongFalsely : Prop := fnExactKeepBandsRow.holds Try.pinned (OpenSpec.ofChange fnExactKeepBandsWrong)

/-- 'laws.FnExactBandAlone': WHATEVER THE INPUT: true; the input reads as it did. -/
def fnExactBandAloneSpec : ChangeSpec := { name := "fnExactBandAlone", fn := fun _ => fun
  | [d1, d2, d3] => { results := [.lit (.bool true)], args := [d1, d2, d3] }
  | _ => none }
def fnExactBandAloneRow : OpenClaim := { program := "ytfhngajodfjkeab", sum := "924e1175c6f4fce0a53ed3fd07ae30eac86c59e279a3170a819c848e3ed21bed", func := "loop.example/g01317/laws.FnExactBandAlone", spec := "fnExactBandAlone", inPlace := ["math.Float64bits", "math.Float64frombits"], unfollowed := true, recurses := true, apart := false }
def FnExactBandAloneSaid : Prop := fnExactBandAloneRow.holds Try.pinned (OpenSpec.ofChange fnExactBandAloneSpec)

/-- ITS FALSE NEIGHBOUR: 'it returns false'. Refute it at one input. -/
def fnExactBandAloneWrong : ChangeSpec := { name := "fnExactBandAlone", fn := fun _ => fun
  | [d1, d2, d3] => { results := [.lit (.bool false)], args := [d1, d2, d3] }
  | _ => none }
def FnExactBandAloneWrongFalsely : Prop := fnExactBandAloneRow.holds Try.pinned (OpenSpec.ofChange fnExactBandAloneWrong)

/-- 'laws.FnExactRoughnessOf': WHATEVER THE INPUT: true; the input reads as it did. -/
def fnExactRoughnessOfSpec : ChangeSpec := { name := "fnExactRoughnessOf", fn := fun _ => fun
  | [d] => { results := [.lit (.bool true)], args := [d] }
  | _ => none }
def fnExactRoughnessOfRow : OpenClaim := { program := "ytfhngajodfjkeab", sum := "924e1175c6f4fce0a53ed3fd07ae30eac86c59e279a3170a819c848e3ed21bed", func := "loop.example/g01317/laws.FnExactRoughnessOf", spec := "fnExactRoughnessOf", inPlace := ["math.Float64frombits", "math.Float64bits"], unfollowed := true, recurses := true, apart := false }
def FnExactRoughnessOfSaid : Prop := fnExactRoughnessOfRow.holds Try.pinned (OpenSpec.ofChange fnExactRoughnessOfSpec)

/-- ITS FALSE NEIGHBOUR: 'it returns false'. Refute it at one input. -/
def fnExactRoughnessOfWrong : ChangeSpec := { name := "fnExactRoughnessOf", fn := fun _ => fun
  | [d] => { results := [.lit (.bool false)], args := [d] }
  | _ => none }
def FnExactRoughnessOfWrongFalsely : Prop := fnExactRoughnessOfRow.holds Try.pinned (OpenSpec.ofChange fnExactRoughnessOfWrong)

/-- 'laws.FnExactLiftOnce': WHATEVER THE INPUT: true; the input reads as it did. -/
def fnExactLiftOnceSpec : ChangeSpec := { name := "fnExactLiftOnce", fn := fun _ => fun
  | [d1, d2] => { results := [.lit (.bool true)], args := [d1, d2] }
  | _ => none }
def fnExactLiftOnceRow : OpenClaim := { program := "ytfhngajodfjkeab", sum := "924e1175c6f4fce0a53ed3fd07ae30eac86c59e279a3170a819c848e3ed21bed", func := "loop.example/g01317/laws.FnExactLiftOnce", spec := "fnExactLiftOnce", inPlace := ["math.Float64bits", "math.Float64frombits"], unfollowed := true, recurses := true, apart := false }
def FnExactLiftOnceSaid : Prop := fnExactLiftOnceRow.holds Try.pinned (OpenSpec.ofChange fnExactLiftOnceSpec)

/-- ITS FALSE NEIGHBOUR: 'it returns false'. Refute it at one input. -/
def fnExactLiftOnceWrong : ChangeSpec := { name := "fnExactLiftOnce", fn := fun _ => fun
  | [d1, d2] => { results := [.lit (.bool false)], args := [d1, d2] }
  | _ => none }
def FnExactLiftOnceWrongFalsely : Prop := fnExactLiftOnceRow.holds Try.pinned (OpenSpec.ofChange fnExactLiftOnceWrong)

/-- 'laws.FnExactDropOnce': WHATEVER THE INPUT: true; the input reads as it did. -/
def fnExactDropOnceSpec : ChangeSpec := { name := "fnExactDropOnce", fn := fun _ => fun
  | [d1, d2, d3] => { results := [.lit (.bool true)], args := [d1, d2, d3] }
  | _ => none }
def fnExactDropOnceRow : OpenClaim := { program := "ytfhngajodfjkeab", sum := "924e1175c6f4fce0a53ed3fd07ae30eac86c59e279a3170a819c848e3ed21bed", func := "loop.example/g01317/laws.FnExactDropOnce", spec := "fnExactDropOnce", inPlace := ["math.Float64bits", "math.Float64frombits"], unfollowed := true, recurses := true, apart := false }
def FnExactDropOnceSaid : Prop := fnExactDropOnceRow.holds Try.pinned (OpenSpec.ofChange fnExactDropOnceSpec)

/-- ITS FALSE NEIGHBOUR: 'it returns false'. Refute it at one input. -/
def fnExactDropOnceWrong : ChangeSpec := { name := "fnExactDropOnce", fn := fun _ => fun
  | [d1, d2, d3] => { results := [.lit (.bool false)], args := [d1, d2, d3] }
  | _ => none }
def FnExactDropOnceWrongFalsely : Prop := fnExactDropOnceRow.holds Try.pinned (OpenSpec.ofChange fnExactDropOnceWrong)

/-- 'laws.FnExactGrowList': WHATEVER THE INPUT: true; the input reads as it did. -/
def fnExactGrowListSpec : ChangeSpec := { name := "fnExactGrowList", fn := fun _ => fun
  | [d1, d2] => { results := [.lit (.bool true)], args := [d1, d2] }
  | _ => none }
def fnExactGrowListRow : OpenClaim := { program := "ytfhngajodfjkeab", sum := "924e1175c6f4fce0a53ed3fd07ae30eac86c59e279a3170a819c848e3ed21bed", func := "loop.example/g01317/laws.FnExactGrowList", spec := "fnExactGrowList", inPlace := ["math.Float64bits", "math.Float64frombits"], unfollowed := true, recurses := true, apart := false }
def FnExactGrowListSaid : Prop := fnExactGrowListRow.holds Try.pinned (OpenSpec.ofChange fnExactGrowListSpec)

/-- ITS FALSE NEIGHBOUR: 'it returns false'. Refute it at one input. -/
def fnExactGrowListWrong : ChangeSpec := { name := "fnExactGrowList", fn := fun _ => fun
  | [d1, d2] => { results := [.lit (.bool false)], args := [d1, d2] }
  | _ => none }
def FnExactGrowListWrongFalsely : Prop := fnExactGrowListRow.holds Try.pinned (OpenSpec.ofChange fnExactGrowListWrong)

/- THE SECOND FORM. 'bulk': how many values and letters a reading holds, each counted each time it is reached (what is shared counts as often as it is met; a slice's spare places count too). A statement '..UptoSaid' is the law's where the arguments, and the package variables that the reading takes, are together of bulk at most 1048576: NARROWER than '..Said'. Prove '..Said' where nothing that the law and all that it calls make is longer than what came in: it says more and counts as full. Else prove '..UptoSaid'. A law counts once. -/
mutual
def uptoBulk {H : Type} : DataW H → Nat
  | .lit (.string bytes) => bytes.length + 1
  | .lit _ => 1
  | .nil => 1
  | .ptr d => uptoBulk d + 1
  | .slice elems spare => uptoBulkAll elems + uptoBulkAll spare + 1
  | .agg parts => uptoBulkAll parts + 1
  | .iface _ d => uptoBulk d + 1
  | .map entries => uptoBulkEntries entries + 1
  | .held _ => 1
def uptoBulkAll {H : Type} : List (DataW H) → Nat
  | [] => 0
  | d :: r => uptoBulk d + uptoBulkAll r
def uptoBulkEntries {H : Type} : List (Lit × DataW H) → Nat
  | [] => 0
  | x :: r => uptoBulkEntry x + uptoBulkEntries r
def uptoBulkEntry {H : Type} : Lit × DataW H → Nat
  | (.string bytes, d) => bytes.length + uptoBulk d + 1
  | (_, d) => uptoBulk d + 1
 end
def uptoSmall : (H : Type) → List (DataW H) → Bool := fun _ ds => decide (uptoBulkAll ds ≤ 1048576)
def OpenSpec.upto (s : _root_.Go.ChangeSpec) : _root_.Go.OpenSpec := { _root_.Go.OpenSpec.ofChange s with cond := some uptoSmall }

/-- 'laws.FnExactMaximaOf', WHERE WHAT IT READS IS OF BULK AT MOST 1048576: true; the input reads as it did. -/
def fnExactMaximaOfUptoRow : OpenClaim := { program := "ytfhngajodfjkeab", sum := "924e1175c6f4fce0a53ed3fd07ae30eac86c59e279a3170a819c848e3ed21bed", func := "loop.example/g01317/laws.FnExactMaximaOf", spec := "fnExactMaximaOf", inPlace := ["math.Float64bits", "math.Float64frombits"], apart := false, narrowed := true }
def FnExactMaximaOfUptoSaid : Prop := fnExactMaximaOfUptoRow.holds Try.pinned (OpenSpec.upto fnExactMaximaOfSpec)

/-- 'laws.FnExactRidgeOf', WHERE WHAT IT READS IS OF BULK AT MOST 1048576: true; the input reads as it did. -/
def fnExactRidgeOfUptoRow : OpenClaim := { program := "ytfhngajodfjkeab", sum := "924e1175c6f4fce0a53ed3fd07ae30eac86c59e279a3170a819c848e3ed21bed", func := "loop.example/g01317/laws.FnExactRidgeOf", spec := "fnExactRidgeOf", inPlace := ["math.Float64bits", "math.Float64frombits"], unfollowed := true, recurses := true, apart := false, narrowed := true }
def FnExactRidgeOfUptoSaid : Prop := fnExactRidgeOfUptoRow.holds Try.pinned (OpenSpec.upto fnExactRidgeOfSpec)

/-- 'laws.FnExactLinkMaxima', WHERE WHAT IT READS IS OF BULK AT MOST 1048576: true; the input reads as it did. -/
def fnExactLinkMaximaUptoRow : OpenClaim := { program := "ytfhngajodfjkeab", sum := "924e1175c6f4fce0a53ed3fd07ae30eac86c59e279a3170a819c848e3ed21bed", func := "loop.example/g01317/laws.FnExactLinkMaxima", spec := "fnExactLinkMaxima", inPlace := ["math.Float64bits", "math.Float64frombits"], unfollowed := true, recurses := true, apart := false, narrowed := true }
def FnExactLinkMaximaUptoSaid : Prop := fnExactLinkMaximaUptoRow.holds Try.pinned (OpenSpec.upto fnExactLinkMaximaSpec)

/-- 'laws.FnExactFromFrame', WHERE WHAT IT READS IS OF BULK AT MOST 1048576: true; the input reads as it did. -/
def fnExactFromFrameUptoRow : OpenClaim := { program := "ytfhngajodfjkeab", sum := "924e1175c6f4fce0a53ed3fd07ae30eac86c59e279a3170a819c848e3ed21bed", func := "loop.example/g01317/laws.FnExactFromFrame", spec := "fnExactFromFrame", inPlace := ["math.Float64bits", "math.Float64frombits"], unfollowed := true, recurses := true, apart := false, narrowed := true }
def FnExactFromFrameUptoSaid : Prop := fnExactFromFrameUptoRow.holds Try.pinned (OpenSpec.upto fnExactFromFrameSpec)

/-- 'laws.FnExactFrameOf', WHERE WHAT IT READS IS OF BULK AT MOST 1048576: true; the input reads as it did. -/
def fnExactFrameOfUptoRow : OpenClaim := { program := "ytfhngajodfjkeab", sum := "924e1175c6f4fce0a53ed3fd07ae30eac86c59e279a3170a819c848e3ed21bed", func := "loop.example/g01317/laws.FnExactFrameOf", spec := "fnExactFrameOf", inPlace := ["math.Float64bits", "math.Float64frombits"], unfollowed := true, recurses := true, apart := false, narrowed := true }
def FnExactFrameOfUptoSaid : Prop := fnExactFrameOfUptoRow.holds Try.pinned (OpenSpec.upto fnExactFrameOfSpec)

/-- 'laws.FnExactKeepBands', WHERE WHAT IT READS IS OF BULK AT MOST 1048576: true; the input reads as it did. -/
def fnExactKeepBandsUptoRow : OpenClaim := { program := "ytfhngajodfjkeab", sum := "924e1175c6f4fce0a53ed3fd07ae30eac86c59e279a3170a819c848e3ed21bed", func := "loop.example/g01317/laws.FnExactKeepBands", spec := "fnExactKeepBands", inPlace := ["math.Float64bits", "math.Float64frombits"], unfollowed := true, recurses := true, apart := false, narrowed := true }
def FnExactKeepBandsUptoSaid : Prop := fnExactKeepBandsUptoRow.holds Try.pinned (OpenSpec.upto fnExactKeepBandsSpec)

/-- 'laws.FnExactBandAlone', WHERE WHAT IT READS IS OF BULK AT MOST 1048576: true; the input reads as it did. -/
def fnExactBandAloneUptoRow : OpenClaim := { program := "ytfhngajodfjkeab", sum := "924e1175c6f4fce0a53ed3fd07ae30eac86c59e279a3170a819c848e3ed21bed", func := "loop.example/g01317/laws.FnExactBandAlone", spec := "fnExactBandAlone", inPlace := ["math.Float64bits", "math.Float64frombits"], unfollowed := true, recurses := true, apart := false, narrowed := true }
def FnExactBandAloneUptoSaid : Prop := fnExactBandAloneUptoRow.holds Try.pinned (OpenSpec.upto fnExactBandAloneSpec)

/-- 'laws.FnExactRoughnessOf', WHERE WHAT IT READS IS OF BULK AT MOST 1048576: true; the input reads as it did. -/
def fnExactRoughnessOfUptoRow : OpenClaim := { program := "ytfhngajodfjkeab", sum := "924e1175c6f4fce0a53ed3fd07ae30eac86c59e279a3170a819c848e3ed21bed", func := "loop.example/g01317/laws.FnExactRoughnessOf", spec := "fnExactRoughnessOf", inPlace := ["math.Float64frombits", "math.Float64bits"], unfollowed := true, recurses := true, apart := false, narrowed := true }
def FnExactRoughnessOfUptoSaid : Prop := fnExactRoughnessOfUptoRow.holds Try.pinned (OpenSpec.upto fnExactRoughnessOfSpec)

/-- 'laws.FnExactLiftOnce', WHERE WHAT IT READS IS OF BULK AT MOST 1048576: true; the input reads as it did. -/
def fnExactLiftOnceUptoRow : OpenClaim := { program := "ytfhngajodfjkeab", sum := "924e1175c6f4fce0a53ed3fd07ae30eac86c59e279a3170a819c848e3ed21bed", func := "loop.example/g01317/laws.FnExactLiftOnce", spec := "fnExactLiftOnce", inPlace := ["math.Float64bits", "math.Float64frombits"], unfollowed := true, recurses := true, apart := false, narrowed := true }
def FnExactLiftOnceUptoSaid : Prop := fnExactLiftOnceUptoRow.holds Try.pinned (OpenSpec.upto fnExactLiftOnceSpec)

/-- 'laws.FnExactDropOnce', WHERE WHAT IT READS IS OF BULK AT MOST 1048576: true; the input reads as it did. -/
def fnExactDropOnceUptoRow : OpenClaim := { program := "ytfhngajodfjkeab", sum := "924e1175c6f4fce0a53ed3fd07ae30eac86c59e279a3170a819c848e3ed21bed", func := "loop.example/g01317/laws.FnExactDropOnce", spec := "fnExactDropOnce", inPlace := ["math.Float64bits", "math.Float64frombits"], unfollowed := true, recurses := true, apart := false, narrowed := true }
def FnExactDropOnceUptoSaid : Prop := fnExactDropOnceUptoRow.holds Try.pinned (OpenSpec.upto fnExactDropOnceSpec)

/-- 'laws.FnExactGrowList', WHERE WHAT IT READS IS OF BULK AT MOST 1048576: true; the input reads as it did. -/
def fnExactGrowListUptoRow : OpenClaim := { program := "ytfhngajodfjkeab", sum := "924e1175c6f4fce0a53ed3fd07ae30eac86c59e279a3170a819c848e3ed21bed", func := "loop.example/g01317/laws.FnExactGrowList", spec := "fnExactGrowList", inPlace := ["math.Float64bits", "math.Float64frombits"], unfollowed := true, recurses := true, apart := false, narrowed := true }
def FnExactGrowListUptoSaid : Prop := fnExactGrowListUptoRow.holds Try.pinned (OpenSpec.upto fnExactGrowListSpec)

end Rows
end Go.Proofs.Ytfhngajodfjkeab
