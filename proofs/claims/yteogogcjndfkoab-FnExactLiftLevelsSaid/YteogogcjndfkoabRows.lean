/-
  No cell of these rows narrows 'for every input' (looked for: loops, veiled, ifaces, maps, wideKeys, modest, calm, conditions, laid).
  DERIVED. THE GIVEN ROWS OF THIS SEAT. 8 by the template 'for every input the law returns true; each argument reads behind the call as it read before'; 0 by the template 'total and deterministic' (their statements: YteogogcjndfkoabTotals.lean).
  GIVEN WITH THE SEED: the statements are not yours to turn. If you find one false, say at which input.
  Laid BY PROGRAM, IN A SANDBOX (cutbox-rows.mjs): the forced cells as the released guide's own fill.sh prints them over the translation 8d92751856cd843b… (all of the seat's roots in one cut). By AI agents, Wed Nov 11 2026. No macro, syntax, notation, axiom, sorry.
-/
import Derived.Test.YteogogcjndfkoabChecked
import GoSem.Claim
import GoSem.ClaimJoined
import GoSem.ClaimMapViews
import Derived.JoinedTies
import Derived.KernelRfl
namespace Go.Proofs.Yteogogcjndfkoab
/- THE CELL 'sum', in the pinned program and in every row, IS THE sha256 OF THE DUMP (.gsa) THAT YteogogcjndfkoabProg.lean LOADS. Nothing in Lean hashes anything: it is a label: what it is worth is what the hold of that sum in a sandbox is worth. -/
noncomputable def Try.pinned : Pinned := { name := "yteogogcjndfkoab", sum := "8d92751856cd843bb6e3880081b5dd0858ae20fde73c687c3980490bcd2ab771", checked := Try.checked }
namespace Rows
def none {H : Type} : Left H := { results := [], args := [] }

/-- 'laws.FnExactEnergyOf': WHATEVER THE INPUT: true; the input reads as it did. -/
def fnExactEnergyOfSpec : ChangeSpec := { name := "fnExactEnergyOf", fn := fun _ => fun
  | [d] => { results := [.lit (.bool true)], args := [d] }
  | _ => none }
def fnExactEnergyOfRow : OpenClaim := { program := "yteogogcjndfkoab", sum := "8d92751856cd843bb6e3880081b5dd0858ae20fde73c687c3980490bcd2ab771", func := "loop.example/g01317/laws.FnExactEnergyOf", spec := "fnExactEnergyOf", inPlace := ["math.Float64bits", "math.Float64frombits"], apart := false }
def FnExactEnergyOfSaid : Prop := fnExactEnergyOfRow.holds Try.pinned (OpenSpec.ofChange fnExactEnergyOfSpec)

/-- ITS FALSE NEIGHBOUR: 'it returns false'. Refute it at one input. -/
def fnExactEnergyOfWrong : ChangeSpec := { name := "fnExactEnergyOf", fn := fun _ => fun
  | [d] => { results := [.lit (.bool false)], args := [d] }
  | _ => none }
def FnExactEnergyOfWrongFalsely : Prop := fnExactEnergyOfRow.holds Try.pinned (OpenSpec.ofChange fnExactEnergyOfWrong)

/-- 'laws.FnExactLiftOnce': WHATEVER THE INPUT: true; the input reads as it did. -/
def fnExactLiftOnceSpec : ChangeSpec := { name := "fnExactLiftOnce", fn := fun _ => fun
  | [d1, d2] => { results := [.lit (.bool true)], args := [d1, d2] }
  | _ => none }
def fnExactLiftOnceRow : OpenClaim := { program := "yteogogcjndfkoab", sum := "8d92751856cd843bb6e3880081b5dd0858ae20fde73c687c3980490bcd2ab771", func := "loop.example/g01317/laws.FnExactLiftOnce", spec := "fnExactLiftOnce", inPlace := ["math.Float64bits", "math.Float64frombits"], unfollowed := true, recurses := true, apart := false }
def FnExactLiftOnceSaid : Prop := fnExactLiftOnceRow.holds Try.pinned (OpenSpec.ofChange fnExactLiftOnceSpec)

/-- ITS FALSE NEIGHBOUR: 'it returns false'. Refute it at one input. -/
def fnExactLiftOnceWrong : ChangeSpec := { name := "fnExactLiftOnce", fn := fun _ => fun
  | [d1, d2] => { results := [.lit (.bool false)], args := [d1, d2] }
  | _ => none }
def FnExactLiftOnceWrongFalsely : Prop := fnExactLiftOnceRow.holds Try.pinned (OpenSpec.ofChange fnExactLiftOnceWrong)

/-- 'laws.FnExactDropOnce': WHATEVER THE INPUT: true; the input reads as it did. -/
def fnExactDropOnceSpec : ChangeSpec := { name := "fnExactDropOnce", fn := fun _ => fun
  | [d1, d2, d3] => { results := [.lit (.bool true)], args := [d1, d2, d3] }
  | _ => none }
def fnExactDropOnceRow : OpenClaim := { program := "yteogogcjndfkoab", sum := "8d92751856cd843bb6e3880081b5dd0858ae20fde73c687c3980490bcd2ab771", func := "loop.example/g01317/laws.FnExactDropOnce", spec := "fnExactDropOnce", inPlace := ["math.Float64bits", "math.Float64frombits"], unfollowed := true, recurses := true, apart := false }
def FnExactDropOnceSaid : Prop := fnExactDropOnceRow.holds Try.pinned (OpenSpec.ofChange fnExactDropOnceSpec)

/-- ITS FALSE NEIGHBOUR: 'it returns false'. Refute it at one input. -/
def fnExactDropOnceWrong : ChangeSpec := { name := "fnExactDropOnce", fn := fun _ => fun
  | [d1, d2, d3] => { results := [.lit (.bool false)], args := [d1, d2, d3] }
  | _ => none }
def FnExactDropOnceWrongFalsely : Prop := fnExactDropOnceRow.holds Try.pinned (OpenSpec.ofChange fnExactDropOnceWrong)

/-- 'laws.FnExactGrowList': WHATEVER THE INPUT: true; the input reads as it did. -/
def fnExactGrowListSpec : ChangeSpec := { name := "fnExactGrowList", fn := fun _ => fun
  | [d1, d2] => { results := [.lit (.bool true)], args := [d1, d2] }
  | _ => none }
def fnExactGrowListRow : OpenClaim := { program := "yteogogcjndfkoab", sum := "8d92751856cd843bb6e3880081b5dd0858ae20fde73c687c3980490bcd2ab771", func := "loop.example/g01317/laws.FnExactGrowList", spec := "fnExactGrowList", inPlace := ["math.Float64bits", "math.Float64frombits"], unfollowed := true, recurses := true, apart := false }
def FnExactGrowListSaid : Prop := fnExactGrowListRow.holds Try.pinned (OpenSpec.ofChange fnExactGrowListSpec)

/-- ITS FALSE NEIGHBOUR: 'it returns false'. Refute it at one input. -/
def fnExactGrowListWrong : ChangeSpec := { name := "fnExactGrowList", fn := fun _ => fun
  | [d1, d2] => { results := [.lit (.bool false)], args := [d1, d2] }
  | _ => none }
def FnExactGrowListWrongFalsely : Prop := fnExactGrowListRow.holds Try.pinned (OpenSpec.ofChange fnExactGrowListWrong)

/-- 'laws.FnExactCutFlat': WHATEVER THE INPUT: true; the input reads as it did. -/
def fnExactCutFlatSpec : ChangeSpec := { name := "fnExactCutFlat", fn := fun _ => fun
  | [d1, d2] => { results := [.lit (.bool true)], args := [d1, d2] }
  | _ => none }
def fnExactCutFlatRow : OpenClaim := { program := "yteogogcjndfkoab", sum := "8d92751856cd843bb6e3880081b5dd0858ae20fde73c687c3980490bcd2ab771", func := "loop.example/g01317/laws.FnExactCutFlat", spec := "fnExactCutFlat", inPlace := ["math.Float64bits", "math.Float64frombits"], unfollowed := true, recurses := true, apart := false }
def FnExactCutFlatSaid : Prop := fnExactCutFlatRow.holds Try.pinned (OpenSpec.ofChange fnExactCutFlatSpec)

/-- ITS FALSE NEIGHBOUR: 'it returns false'. Refute it at one input. -/
def fnExactCutFlatWrong : ChangeSpec := { name := "fnExactCutFlat", fn := fun _ => fun
  | [d1, d2] => { results := [.lit (.bool false)], args := [d1, d2] }
  | _ => none }
def FnExactCutFlatWrongFalsely : Prop := fnExactCutFlatRow.holds Try.pinned (OpenSpec.ofChange fnExactCutFlatWrong)

/-- 'laws.FnExactLiftLevels': WHATEVER THE INPUT: true; the input reads as it did. -/
def fnExactLiftLevelsSpec : ChangeSpec := { name := "fnExactLiftLevels", fn := fun _ => fun
  | [d1, d2, d3] => { results := [.lit (.bool true)], args := [d1, d2, d3] }
  | _ => none }
def fnExactLiftLevelsRow : OpenClaim := { program := "yteogogcjndfkoab", sum := "8d92751856cd843bb6e3880081b5dd0858ae20fde73c687c3980490bcd2ab771", func := "loop.example/g01317/laws.FnExactLiftLevels", spec := "fnExactLiftLevels", unfollowed := true, recurses := true, apart := false }
def FnExactLiftLevelsSaid : Prop := fnExactLiftLevelsRow.holds Try.pinned (OpenSpec.ofChange fnExactLiftLevelsSpec)

/-- ITS FALSE NEIGHBOUR: 'it returns false'. Refute it at one input. -/
def fnExactLiftLevelsWrong : ChangeSpec := { name := "fnExactLiftLevels", fn := fun _ => fun
  | [d1, d2, d3] => { results := [.lit (.bool false)], args := [d1, d2, d3] }
  | _ => none }
def FnExactLiftLevelsWrongFalsely : Prop := fnExactLiftLevelsRow.holds Try.pinned (OpenSpec.ofChange fnExactLiftLevelsWrong)

/-- 'laws.FnExactLiftDeep': WHATEVER THE INPUT: true; the input reads as it did. -/
def fnExactLiftDeepSpec : ChangeSpec := { name := "fnExactLiftDeep", fn := fun _ => fun
  | [d1, d2, d3] => { results := [.lit (.bool true)], args := [d1, d2, d3] }
  | _ => none }
def fnExactLiftDeepRow : OpenClaim := { program := "yteogogcjndfkoab", sum := "8d92751856cd843bb6e3880081b5dd0858ae20fde73c687c3980490bcd2ab771", func := "loop.example/g01317/laws.FnExactLiftDeep", spec := "fnExactLiftDeep", inPlace := ["math.Float64bits", "math.Float64frombits"], unfollowed := true, recurses := true, apart := false }
def FnExactLiftDeepSaid : Prop := fnExactLiftDeepRow.holds Try.pinned (OpenSpec.ofChange fnExactLiftDeepSpec)

/-- ITS FALSE NEIGHBOUR: 'it returns false'. Refute it at one input. -/
def fnExactLiftDeepWrong : ChangeSpec := { name := "fnExactLiftDeep", fn := fun _ => fun
  | [d1, d2, d3] => { results := [.lit (.bool false)], args := [d1, d2, d3] }
  | _ => none }
def FnExactLiftDeepWrongFalsely : Prop := fnExactLiftDeepRow.holds Try.pinned (OpenSpec.ofChange fnExactLiftDeepWrong)

/-- 'laws.FnExactCoarseOf': WHATEVER THE INPUT: true; the input reads as it did. -/
def fnExactCoarseOfSpec : ChangeSpec := { name := "fnExactCoarseOf", fn := fun _ => fun
  | [d1, d2, d3, d4] => { results := [.lit (.bool true)], args := [d1, d2, d3, d4] }
  | _ => none }
def fnExactCoarseOfRow : OpenClaim := { program := "yteogogcjndfkoab", sum := "8d92751856cd843bb6e3880081b5dd0858ae20fde73c687c3980490bcd2ab771", func := "loop.example/g01317/laws.FnExactCoarseOf", spec := "fnExactCoarseOf", inPlace := ["math.Float64bits", "math.Float64frombits"], unfollowed := true, recurses := true, apart := false }
def FnExactCoarseOfSaid : Prop := fnExactCoarseOfRow.holds Try.pinned (OpenSpec.ofChange fnExactCoarseOfSpec)

/-- ITS FALSE NEIGHBOUR: 'it returns false'. Refute it at one input. -/
def fnExactCoarseOfWrong : ChangeSpec := { name := "fnExactCoarseOf", fn := fun _ => fun
  | [d1, d2, d3, d4] => { results := [.lit (.bool false)], args := [d1, d2, d3, d4] }
  | _ => none }
def FnExactCoarseOfWrongFalsely : Prop := fnExactCoarseOfRow.holds Try.pinned (OpenSpec.ofChange fnExactCoarseOfWrong)

/- THE SECOND FORM. 'bulk': how many values and letters a reading holds, each counted each time it is reached (what is shared counts as often as it is met; a slice's spare places count too). A statement '..UptoSaid' is the law's where the arguments, and the package variables that the reading takes, are together of bulk at most 1048576: NARROWER than '..Said'. Prove '..Said' where nothing that the law and all that it calls make is longer than what came in: it says more and counts as full. Else prove '..UptoSaid'. A law counts once. -/
mutual
def uptoBulk {H : Type} : DataW H → Nat
  | .lit (.string bytes) => bytes.length + 1
  | .lit _ => 1
  | .nil => 1
  | .ptr d => uptoBulk d + 1
  | .slice elems spare => uptoBulkAll elems + uptoBulkAll spare + 1
  | .agg parts => uptoBulkAll parts + 1
  | .iface _ d => uptoBulk d + 1
  | .map entries => uptoBulkEntries entries + 1
  | .held _ => 1
def uptoBulkAll {H : Type} : List (DataW H) → Nat
  | [] => 0
  | d :: r => uptoBulk d + uptoBulkAll r
def uptoBulkEntries {H : Type} : List (Lit × DataW H) → Nat
  | [] => 0
  | x :: r => uptoBulkEntry x + uptoBulkEntries r
def uptoBulkEntry {H : Type} : Lit × DataW H → Nat
  | (.string bytes, d) => bytes.length + uptoBulk d + 1
  | (_, d) => uptoBulk d + 1
 end
def uptoSmall : (H : Type) → List (DataW H) → Bool := fun _ ds => decide (uptoBulkAll ds ≤ 1048576)
def OpenSpec.upto (s : _root_.Go.ChangeSpec) : _root_.Go.OpenSpec := { _root_.Go.OpenSpec.ofChange s with cond := some uptoSmall }

/-- 'laws.FnExactEnergyOf', WHERE WHAT IT READS IS OF BULK AT MOST 1048576: true; the input reads as it did. -/
def fnExactEnergyOfUptoRow : OpenClaim := { program := "yteogogcjndfkoab", sum := "8d92751856cd843bb6e3880081b5dd0858ae20fde73c687c3980490bcd2ab771", func := "loop.example/g01317/laws.FnExactEnergyOf", spec := "fnExactEnergyOf", inPlace := ["math.Float64bits", "math.Float64frombits"], apart := false, narrowed := true }
def FnExactEnergyOfUptoSaid : Prop := fnExactEnergyOfUptoRow.holds Try.pinned (OpenSpec.upto fnExactEnergyOfSpec)

/-- 'laws.FnExactLiftOnce', WHERE WHAT IT READS IS OF BULK AT MOST 1048576: true; the input reads as it did. -/
def fnExactLiftOnceUptoRow : OpenClaim := { program := "yteogogcjndfkoab", sum := "8d92751856cd843bb6e3880081b5dd0858ae20fde73c687c3980490bcd2ab771", func := "loop.example/g01317/laws.FnExactLiftOnce", spec := "fnExactLiftOnce", inPlace := ["math.Float64bits", "math.Float64frombits"], unfollowed := true, recurses := true, apart := false, narrowed := true }
def FnExactLiftOnceUptoSaid : Prop := fnExactLiftOnceUptoRow.holds Try.pinned (OpenSpec.upto fnExactLiftOnceSpec)

/-- 'laws.FnExactDropOnce', WHERE WHAT IT READS IS OF BULK AT MOST 1048576: true; the input reads as it did. -/
def fnExactDropOnceUptoRow : OpenClaim := { program := "yteogogcjndfkoab", sum := "8d92751856cd843bb6e3880081b5dd0858ae20fde73c687c3980490bcd2ab771", func := "loop.example/g01317/laws.FnExactDropOnce", spec := "fnExactDropOnce", inPlace := ["math.Float64bits", "math.Float64frombits"], unfollowed := true, recurses := true, apart := false, narrowed := true }
def FnExactDropOnceUptoSaid : Prop := fnExactDropOnceUptoRow.holds Try.pinned (OpenSpec.upto fnExactDropOnceSpec)

/-- 'laws.FnExactGrowList', WHERE WHAT IT READS IS OF BULK AT MOST 1048576: true; the input reads as it did. -/
def fnExactGrowListUptoRow : OpenClaim := { program := "yteogogcjndfkoab", sum := "8d92751856cd843bb6e3880081b5dd0858ae20fde73c687c3980490bcd2ab771", func := "loop.example/g01317/laws.FnExactGrowList", spec := "fnExactGrowList", inPlace := ["math.Float64bits", "math.Float64frombits"], unfollowed := true, recurses := true, apart := false, narrowed := true }
def FnExactGrowListUptoSaid : Prop := fnExactGrowListUptoRow.holds Try.pinned (OpenSpec.upto fnExactGrowListSpec)

/-- 'laws.FnExactCutFlat', WHERE WHAT IT READS IS OF BULK AT MOST 1048576: true; the input reads as it did. -/
def fnExactCutFlatUptoRow : OpenClaim := { program := "yteogogcjndfkoab", sum := "8d92751856cd843bb6e3880081b5dd0858ae20fde73c687c3980490bcd2ab771", func := "loop.example/g01317/laws.FnExactCutFlat", spec := "fnExactCutFlat", inPlace := ["math.Float64bits", "math.Float64frombits"], unfollowed := true, recurses := true, apart := false, narrowed := true }
def FnExactCutFlatUptoSaid : Prop := fnExactCutFlatUptoRow.holds Try.pinned (OpenSpec.upto fnExactCutFlatSpec)

/-- 'laws.FnExactLiftLevels', WHERE WHAT IT READS IS OF BULK AT MOST 1048576: true; the input reads as it did. -/
def fnExactLiftLevelsUptoRow : OpenClaim := { program := "yteogogcjndfkoab", sum := "8d92751856cd843bb6e3880081b5dd0858ae20fde73c687c3980490bcd2ab771", func := "loop.example/g01317/laws.FnExactLiftLevels", spec := "fnExactLiftLevels", unfollowed := true, recurses := true, apart := false, narrowed := true }
def FnExactLiftLevelsUptoSaid : Prop := fnExactLiftLevelsUptoRow.holds Try.pinned (OpenSpec.upto fnExactLiftLevelsSpec)

/-- 'laws.FnExactLiftDeep', WHERE WHAT IT READS IS OF BULK AT MOST 1048576: true; the input reads as it did. -/
def fnExactLiftDeepUptoRow : OpenClaim := { program := "yteogogcjndfkoab", sum := "8d92751856cd843bb6e3880081b5dd0858ae20fde73c687c3980490bcd2ab771", func := "loop.example/g01317/laws.FnExactLiftDeep", spec := "fnExactLiftDeep", inPlace := ["math.Float64bits", "math.Float64frombits"], unfollowed := true, recurses := true, apart := false, narrowed := true }
def FnExactLiftDeepUptoSaid : Prop := fnExactLiftDeepUptoRow.holds Try.pinned (OpenSpec.upto fnExactLiftDeepSpec)

/-- 'laws.FnExactCoarseOf', WHERE WHAT IT READS IS OF BULK AT MOST 1048576: true; the input reads as it did. -/
def fnExactCoarseOfUptoRow : OpenClaim := { program := "yteogogcjndfkoab", sum := "8d92751856cd843bb6e3880081b5dd0858ae20fde73c687c3980490bcd2ab771", func := "loop.example/g01317/laws.FnExactCoarseOf", spec := "fnExactCoarseOf", inPlace := ["math.Float64bits", "math.Float64frombits"], unfollowed := true, recurses := true, apart := false, narrowed := true }
def FnExactCoarseOfUptoSaid : Prop := fnExactCoarseOfUptoRow.holds Try.pinned (OpenSpec.upto fnExactCoarseOfSpec)

end Rows
end Go.Proofs.Yteogogcjndfkoab
