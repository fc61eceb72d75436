/-
  No cell of these rows narrows 'for every input' (looked for: loops, veiled, ifaces, maps, wideKeys, modest, calm, conditions, laid).
  DERIVED. THE GIVEN ROWS OF THIS SEAT. 12 by the template 'for every input the law returns true; each argument reads behind the call as it read before'; 0 by the template 'total and deterministic' (their statements: YtfhngajodfjkeaaTotals.lean).
  GIVEN WITH THE SEED: the statements are not yours to turn. If you find one false, say at which input.
  Laid BY PROGRAM, IN A SANDBOX (cutbox-rows.mjs): the forced cells as the released guide's own fill.sh prints them over the translation 9ec24a19caf3c67b… (all of the seat's roots in one cut). By AI agents, Wed Nov 11 2026. No macro, syntax, notation, axiom, sorry.
-/
import Derived.Test.YtfhngajodfjkeaaChecked
import GoSem.Claim
import GoSem.ClaimJoined
import GoSem.ClaimMapViews
import Derived.JoinedTies
import Derived.KernelRfl
namespace Go.Proofs.Ytfhngajodfjkeaa
/- THE CELL 'sum', in the pinned program and in every row, IS THE sha256 OF THE DUMP (.gsa) THAT YtfhngajodfjkeaaProg.lean LOADS. Nothing in Lean hashes anything: it is a label: what it is worth is what the hold of that sum in a sandbox is worth. -/
noncomputable def Try.pinned : Pinned := { name := "ytfhngajodfjkeaa", sum := "9ec24a19caf3c67be33c12e6bf192e4c32c8df39a486eb2de4be192116083569", checked := Try.checked }
namespace Rows
def none {H : Type} : Left H := { results := [], args := [] }

/-- 'laws.FnExactHaarPair': WHATEVER THE INPUT: true; the input reads as it did. -/
def fnExactHaarPairSpec : ChangeSpec := { name := "fnExactHaarPair", fn := fun _ => fun
  | [] => { results := [.lit (.bool true)], args := [] }
  | _ => none }
def fnExactHaarPairRow : OpenClaim := { program := "ytfhngajodfjkeaa", sum := "9ec24a19caf3c67be33c12e6bf192e4c32c8df39a486eb2de4be192116083569", func := "loop.example/g01317/laws.FnExactHaarPair", spec := "fnExactHaarPair", apart := false }
def FnExactHaarPairSaid : Prop := fnExactHaarPairRow.holds Try.pinned (OpenSpec.ofChange fnExactHaarPairSpec)

/-- ITS FALSE NEIGHBOUR: 'it returns false'. Refute it at one input. -/
def fnExactHaarPairWrong : ChangeSpec := { name := "fnExactHaarPair", fn := fun _ => fun
  | [] => { results := [.lit (.bool false)], args := [] }
  | _ => none }
def FnExactHaarPairWrongFalsely : Prop := fnExactHaarPairRow.holds Try.pinned (OpenSpec.ofChange fnExactHaarPairWrong)

/-- 'laws.FnExactFourPair': WHATEVER THE INPUT: true; the input reads as it did. -/
def fnExactFourPairSpec : ChangeSpec := { name := "fnExactFourPair", fn := fun _ => fun
  | [] => { results := [.lit (.bool true)], args := [] }
  | _ => none }
def fnExactFourPairRow : OpenClaim := { program := "ytfhngajodfjkeaa", sum := "9ec24a19caf3c67be33c12e6bf192e4c32c8df39a486eb2de4be192116083569", func := "loop.example/g01317/laws.FnExactFourPair", spec := "fnExactFourPair", apart := false }
def FnExactFourPairSaid : Prop := fnExactFourPairRow.holds Try.pinned (OpenSpec.ofChange fnExactFourPairSpec)

/-- ITS FALSE NEIGHBOUR: 'it returns false'. Refute it at one input. -/
def fnExactFourPairWrong : ChangeSpec := { name := "fnExactFourPair", fn := fun _ => fun
  | [] => { results := [.lit (.bool false)], args := [] }
  | _ => none }
def FnExactFourPairWrongFalsely : Prop := fnExactFourPairRow.holds Try.pinned (OpenSpec.ofChange fnExactFourPairWrong)

/-- 'laws.FnExactValidPair': WHATEVER THE INPUT: true; the input reads as it did. -/
def fnExactValidPairSpec : ChangeSpec := { name := "fnExactValidPair", fn := fun _ => fun
  | [d] => { results := [.lit (.bool true)], args := [d] }
  | _ => none }
def fnExactValidPairRow : OpenClaim := { program := "ytfhngajodfjkeaa", sum := "9ec24a19caf3c67be33c12e6bf192e4c32c8df39a486eb2de4be192116083569", func := "loop.example/g01317/laws.FnExactValidPair", spec := "fnExactValidPair", inPlace := ["math.Float64bits", "math.Float64frombits"], unfollowed := true, recurses := true, apart := false }
def FnExactValidPairSaid : Prop := fnExactValidPairRow.holds Try.pinned (OpenSpec.ofChange fnExactValidPairSpec)

/-- ITS FALSE NEIGHBOUR: 'it returns false'. Refute it at one input. -/
def fnExactValidPairWrong : ChangeSpec := { name := "fnExactValidPair", fn := fun _ => fun
  | [d] => { results := [.lit (.bool false)], args := [d] }
  | _ => none }
def FnExactValidPairWrongFalsely : Prop := fnExactValidPairRow.holds Try.pinned (OpenSpec.ofChange fnExactValidPairWrong)

/-- 'laws.FnExactSamePair': WHATEVER THE INPUT: true; the input reads as it did. -/
def fnExactSamePairSpec : ChangeSpec := { name := "fnExactSamePair", fn := fun _ => fun
  | [d1, d2] => { results := [.lit (.bool true)], args := [d1, d2] }
  | _ => none }
def fnExactSamePairRow : OpenClaim := { program := "ytfhngajodfjkeaa", sum := "9ec24a19caf3c67be33c12e6bf192e4c32c8df39a486eb2de4be192116083569", func := "loop.example/g01317/laws.FnExactSamePair", spec := "fnExactSamePair", inPlace := ["math.Float32bits"], unfollowed := true, recurses := true, apart := false }
def FnExactSamePairSaid : Prop := fnExactSamePairRow.holds Try.pinned (OpenSpec.ofChange fnExactSamePairSpec)

/-- ITS FALSE NEIGHBOUR: 'it returns false'. Refute it at one input. -/
def fnExactSamePairWrong : ChangeSpec := { name := "fnExactSamePair", fn := fun _ => fun
  | [d1, d2] => { results := [.lit (.bool false)], args := [d1, d2] }
  | _ => none }
def FnExactSamePairWrongFalsely : Prop := fnExactSamePairRow.holds Try.pinned (OpenSpec.ofChange fnExactSamePairWrong)

/-- 'laws.FnExactHighOf': WHATEVER THE INPUT: true; the input reads as it did. -/
def fnExactHighOfSpec : ChangeSpec := { name := "fnExactHighOf", fn := fun _ => fun
  | [d] => { results := [.lit (.bool true)], args := [d] }
  | _ => none }
def fnExactHighOfRow : OpenClaim := { program := "ytfhngajodfjkeaa", sum := "9ec24a19caf3c67be33c12e6bf192e4c32c8df39a486eb2de4be192116083569", func := "loop.example/g01317/laws.FnExactHighOf", spec := "fnExactHighOf", inPlace := ["math.Float64bits", "math.Float64frombits"], unfollowed := true, recurses := true, apart := false }
def FnExactHighOfSaid : Prop := fnExactHighOfRow.holds Try.pinned (OpenSpec.ofChange fnExactHighOfSpec)

/-- ITS FALSE NEIGHBOUR: 'it returns false'. Refute it at one input. -/
def fnExactHighOfWrong : ChangeSpec := { name := "fnExactHighOf", fn := fun _ => fun
  | [d] => { results := [.lit (.bool false)], args := [d] }
  | _ => none }
def FnExactHighOfWrongFalsely : Prop := fnExactHighOfRow.holds Try.pinned (OpenSpec.ofChange fnExactHighOfWrong)

/-- 'laws.FnExactSplitRing': WHATEVER THE INPUT: true; the input reads as it did. -/
def fnExactSplitRingSpec : ChangeSpec := { name := "fnExactSplitRing", fn := fun _ => fun
  | [d1, d2] => { results := [.lit (.bool true)], args := [d1, d2] }
  | _ => none }
def fnExactSplitRingRow : OpenClaim := { program := "ytfhngajodfjkeaa", sum := "9ec24a19caf3c67be33c12e6bf192e4c32c8df39a486eb2de4be192116083569", func := "loop.example/g01317/laws.FnExactSplitRing", spec := "fnExactSplitRing", inPlace := ["math.Float64bits", "math.Float64frombits"], unfollowed := true, recurses := true, apart := false }
def FnExactSplitRingSaid : Prop := fnExactSplitRingRow.holds Try.pinned (OpenSpec.ofChange fnExactSplitRingSpec)

/-- ITS FALSE NEIGHBOUR: 'it returns false'. Refute it at one input. -/
def fnExactSplitRingWrong : ChangeSpec := { name := "fnExactSplitRing", fn := fun _ => fun
  | [d1, d2] => { results := [.lit (.bool false)], args := [d1, d2] }
  | _ => none }
def FnExactSplitRingWrongFalsely : Prop := fnExactSplitRingRow.holds Try.pinned (OpenSpec.ofChange fnExactSplitRingWrong)

/-- 'laws.FnExactJoinRing': WHATEVER THE INPUT: true; the input reads as it did. -/
def fnExactJoinRingSpec : ChangeSpec := { name := "fnExactJoinRing", fn := fun _ => fun
  | [d1, d2, d3] => { results := [.lit (.bool true)], args := [d1, d2, d3] }
  | _ => none }
def fnExactJoinRingRow : OpenClaim := { program := "ytfhngajodfjkeaa", sum := "9ec24a19caf3c67be33c12e6bf192e4c32c8df39a486eb2de4be192116083569", func := "loop.example/g01317/laws.FnExactJoinRing", spec := "fnExactJoinRing", inPlace := ["math.Float64bits", "math.Float64frombits"], unfollowed := true, recurses := true, apart := false }
def FnExactJoinRingSaid : Prop := fnExactJoinRingRow.holds Try.pinned (OpenSpec.ofChange fnExactJoinRingSpec)

/-- ITS FALSE NEIGHBOUR: 'it returns false'. Refute it at one input. -/
def fnExactJoinRingWrong : ChangeSpec := { name := "fnExactJoinRing", fn := fun _ => fun
  | [d1, d2, d3] => { results := [.lit (.bool false)], args := [d1, d2, d3] }
  | _ => none }
def FnExactJoinRingWrongFalsely : Prop := fnExactJoinRingRow.holds Try.pinned (OpenSpec.ofChange fnExactJoinRingWrong)

/-- 'laws.FnExactValidBands': WHATEVER THE INPUT: true; the input reads as it did. -/
def fnExactValidBandsSpec : ChangeSpec := { name := "fnExactValidBands", fn := fun _ => fun
  | [d] => { results := [.lit (.bool true)], args := [d] }
  | _ => none }
def fnExactValidBandsRow : OpenClaim := { program := "ytfhngajodfjkeaa", sum := "9ec24a19caf3c67be33c12e6bf192e4c32c8df39a486eb2de4be192116083569", func := "loop.example/g01317/laws.FnExactValidBands", spec := "fnExactValidBands", inPlace := ["math.Float64bits", "math.Float64frombits"], unfollowed := true, recurses := true, apart := false }
def FnExactValidBandsSaid : Prop := fnExactValidBandsRow.holds Try.pinned (OpenSpec.ofChange fnExactValidBandsSpec)

/-- ITS FALSE NEIGHBOUR: 'it returns false'. Refute it at one input. -/
def fnExactValidBandsWrong : ChangeSpec := { name := "fnExactValidBands", fn := fun _ => fun
  | [d] => { results := [.lit (.bool false)], args := [d] }
  | _ => none }
def FnExactValidBandsWrongFalsely : Prop := fnExactValidBandsRow.holds Try.pinned (OpenSpec.ofChange fnExactValidBandsWrong)

/-- 'laws.FnExactSameBands': WHATEVER THE INPUT: true; the input reads as it did. -/
def fnExactSameBandsSpec : ChangeSpec := { name := "fnExactSameBands", fn := fun _ => fun
  | [d1, d2] => { results := [.lit (.bool true)], args := [d1, d2] }
  | _ => none }
def fnExactSameBandsRow : OpenClaim := { program := "ytfhngajodfjkeaa", sum := "9ec24a19caf3c67be33c12e6bf192e4c32c8df39a486eb2de4be192116083569", func := "loop.example/g01317/laws.FnExactSameBands", spec := "fnExactSameBands", inPlace := ["math.Float32bits"], unfollowed := true, recurses := true, apart := false }
def FnExactSameBandsSaid : Prop := fnExactSameBandsRow.holds Try.pinned (OpenSpec.ofChange fnExactSameBandsSpec)

/-- ITS FALSE NEIGHBOUR: 'it returns false'. Refute it at one input. -/
def fnExactSameBandsWrong : ChangeSpec := { name := "fnExactSameBands", fn := fun _ => fun
  | [d1, d2] => { results := [.lit (.bool false)], args := [d1, d2] }
  | _ => none }
def FnExactSameBandsWrongFalsely : Prop := fnExactSameBandsRow.holds Try.pinned (OpenSpec.ofChange fnExactSameBandsWrong)

/-- 'laws.FnExactSplitLevels': WHATEVER THE INPUT: true; the input reads as it did. -/
def fnExactSplitLevelsSpec : ChangeSpec := { name := "fnExactSplitLevels", fn := fun _ => fun
  | [d1, d2, d3] => { results := [.lit (.bool true)], args := [d1, d2, d3] }
  | _ => none }
def fnExactSplitLevelsRow : OpenClaim := { program := "ytfhngajodfjkeaa", sum := "9ec24a19caf3c67be33c12e6bf192e4c32c8df39a486eb2de4be192116083569", func := "loop.example/g01317/laws.FnExactSplitLevels", spec := "fnExactSplitLevels", inPlace := ["math.Float64bits", "math.Float64frombits"], unfollowed := true, recurses := true, apart := false }
def FnExactSplitLevelsSaid : Prop := fnExactSplitLevelsRow.holds Try.pinned (OpenSpec.ofChange fnExactSplitLevelsSpec)

/-- ITS FALSE NEIGHBOUR: 'it returns false'. Refute it at one input. -/
def fnExactSplitLevelsWrong : ChangeSpec := { name := "fnExactSplitLevels", fn := fun _ => fun
  | [d1, d2, d3] => { results := [.lit (.bool false)], args := [d1, d2, d3] }
  | _ => none }
def FnExactSplitLevelsWrongFalsely : Prop := fnExactSplitLevelsRow.holds Try.pinned (OpenSpec.ofChange fnExactSplitLevelsWrong)

/-- 'laws.FnExactJoinLevels': WHATEVER THE INPUT: true; the input reads as it did. -/
def fnExactJoinLevelsSpec : ChangeSpec := { name := "fnExactJoinLevels", fn := fun _ => fun
  | [d1, d2] => { results := [.lit (.bool true)], args := [d1, d2] }
  | _ => none }
def fnExactJoinLevelsRow : OpenClaim := { program := "ytfhngajodfjkeaa", sum := "9ec24a19caf3c67be33c12e6bf192e4c32c8df39a486eb2de4be192116083569", func := "loop.example/g01317/laws.FnExactJoinLevels", spec := "fnExactJoinLevels", inPlace := ["math.Float64bits", "math.Float64frombits"], unfollowed := true, recurses := true, apart := false }
def FnExactJoinLevelsSaid : Prop := fnExactJoinLevelsRow.holds Try.pinned (OpenSpec.ofChange fnExactJoinLevelsSpec)

/-- ITS FALSE NEIGHBOUR: 'it returns false'. Refute it at one input. -/
def fnExactJoinLevelsWrong : ChangeSpec := { name := "fnExactJoinLevels", fn := fun _ => fun
  | [d1, d2] => { results := [.lit (.bool false)], args := [d1, d2] }
  | _ => none }
def FnExactJoinLevelsWrongFalsely : Prop := fnExactJoinLevelsRow.holds Try.pinned (OpenSpec.ofChange fnExactJoinLevelsWrong)

/-- 'laws.FnExactPowersOfBands': WHATEVER THE INPUT: true; the input reads as it did. -/
def fnExactPowersOfBandsSpec : ChangeSpec := { name := "fnExactPowersOfBands", fn := fun _ => fun
  | [d] => { results := [.lit (.bool true)], args := [d] }
  | _ => none }
def fnExactPowersOfBandsRow : OpenClaim := { program := "ytfhngajodfjkeaa", sum := "9ec24a19caf3c67be33c12e6bf192e4c32c8df39a486eb2de4be192116083569", func := "loop.example/g01317/laws.FnExactPowersOfBands", spec := "fnExactPowersOfBands", inPlace := ["math.Float64bits", "math.Float64frombits"], unfollowed := true, recurses := true, apart := false }
def FnExactPowersOfBandsSaid : Prop := fnExactPowersOfBandsRow.holds Try.pinned (OpenSpec.ofChange fnExactPowersOfBandsSpec)

/-- ITS FALSE NEIGHBOUR: 'it returns false'. Refute it at one input. -/
def fnExactPowersOfBandsWrong : ChangeSpec := { name := "fnExactPowersOfBands", fn := fun _ => fun
  | [d] => { results := [.lit (.bool false)], args := [d] }
  | _ => none }
def FnExactPowersOfBandsWrongFalsely : Prop := fnExactPowersOfBandsRow.holds Try.pinned (OpenSpec.ofChange fnExactPowersOfBandsWrong)

/- THE SECOND FORM. 'bulk': how many values and letters a reading holds, each counted each time it is reached (what is shared counts as often as it is met; a slice's spare places count too). A statement '..UptoSaid' is the law's where the arguments, and the package variables that the reading takes, are together of bulk at most 1048576: NARROWER than '..Said'. Prove '..Said' where nothing that the law and all that it calls make is longer than what came in: it says more and counts as full. Else prove '..UptoSaid'. A law counts once. -/
mutual
def uptoBulk {H : Type} : DataW H → Nat
  | .lit (.string bytes) => bytes.length + 1
  | .lit _ => 1
  | .nil => 1
  | .ptr d => uptoBulk d + 1
  | .slice elems spare => uptoBulkAll elems + uptoBulkAll spare + 1
  | .agg parts => uptoBulkAll parts + 1
  | .iface _ d => uptoBulk d + 1
  | .map entries => uptoBulkEntries entries + 1
  | .held _ => 1
def uptoBulkAll {H : Type} : List (DataW H) → Nat
  | [] => 0
  | d :: r => uptoBulk d + uptoBulkAll r
def uptoBulkEntries {H : Type} : List (Lit × DataW H) → Nat
  | [] => 0
  | x :: r => uptoBulkEntry x + uptoBulkEntries r
def uptoBulkEntry {H : Type} : Lit × DataW H → Nat
  | (.string bytes, d) => bytes.length + uptoBulk d + 1
  | (_, d) => uptoBulk d + 1
 end
def uptoSmall : (H : Type) → List (DataW H) → Bool := fun _ ds => decide (uptoBulkAll ds ≤ 1048576)
def OpenSpec.upto (s : _root_.Go.ChangeSpec) : _root_.Go.OpenSpec := { _root_.Go.OpenSpec.ofChange s with cond := some uptoSmall }

/-- 'laws.FnExactHaarPair', WHERE WHAT IT READS IS OF BULK AT MOST 1048576: true; the input reads as it did. -/
def fnExactHaarPairUptoRow : OpenClaim := { program := "ytfhngajodfjkeaa", sum := "9ec24a19caf3c67be33c12e6bf192e4c32c8df39a486eb2de4be192116083569", func := "loop.example/g01317/laws.FnExactHaarPair", spec := "fnExactHaarPair", apart := false, narrowed := true }
def FnExactHaarPairUptoSaid : Prop := fnExactHaarPairUptoRow.holds Try.pinned (OpenSpec.upto fnExactHaarPairSpec)

/-- 'laws.FnExactFourPair', WHERE WHAT IT READS IS OF BULK AT MOST 1048576: true; the input reads as it did. -/
def fnExactFourPairUptoRow : OpenClaim := { program := "ytfhngajodfjkeaa", sum := "9ec24a19caf3c67be33c12e6bf192e4c32c8df39a486eb2de4be192116083569", func := "loop.example/g01317/laws.FnExactFourPair", spec := "fnExactFourPair", apart := false, narrowed := true }
def FnExactFourPairUptoSaid : Prop := fnExactFourPairUptoRow.holds Try.pinned (OpenSpec.upto fnExactFourPairSpec)

/-- 'laws.FnExactValidPair', WHERE WHAT IT READS IS OF BULK AT MOST 1048576: true; the input reads as it did. -/
def fnExactValidPairUptoRow : OpenClaim := { program := "ytfhngajodfjkeaa", sum := "9ec24a19caf3c67be33c12e6bf192e4c32c8df39a486eb2de4be192116083569", func := "loop.example/g01317/laws.FnExactValidPair", spec := "fnExactValidPair", inPlace := ["math.Float64bits", "math.Float64frombits"], unfollowed := true, recurses := true, apart := false, narrowed := true }
def FnExactValidPairUptoSaid : Prop := fnExactValidPairUptoRow.holds Try.pinned (OpenSpec.upto fnExactValidPairSpec)

/-- 'laws.FnExactSamePair', WHERE WHAT IT READS IS OF BULK AT MOST 1048576: true; the input reads as it did. -/
def fnExactSamePairUptoRow : OpenClaim := { program := "ytfhngajodfjkeaa", sum := "9ec24a19caf3c67be33c12e6bf192e4c32c8df39a486eb2de4be192116083569", func := "loop.example/g01317/laws.FnExactSamePair", spec := "fnExactSamePair", inPlace := ["math.Float32bits"], unfollowed := true, recurses := true, apart := false, narrowed := true }
def FnExactSamePairUptoSaid : Prop := fnExactSamePairUptoRow.holds Try.pinned (OpenSpec.upto fnExactSamePairSpec)

/-- 'laws.FnExactHighOf', WHERE WHAT IT READS IS OF BULK AT MOST 1048576: true; the input reads as it did. -/
def fnExactHighOfUptoRow : OpenClaim := { program := "ytfhngajodfjkeaa", sum := "9ec24a19caf3c67be33c12e6bf192e4c32c8df39a486eb2de4be192116083569", func := "loop.example/g01317/laws.FnExactHighOf", spec := "fnExactHighOf", inPlace := ["math.Float64bits", "math.Float64frombits"], unfollowed := true, recurses := true, apart := false, narrowed := true }
def FnExactHighOfUptoSaid : Prop := fnExactHighOfUptoRow.holds Try.pinned (OpenSpec.upto fnExactHighOfSpec)

/-- 'laws.FnExactSplitRing', WHERE WHAT IT READS IS OF BULK AT MOST 1048576: true; the input reads as it did. -/
def fnExactSplitRingUptoRow : OpenClaim := { program := "ytfhngajodfjkeaa", sum := "9ec24a19caf3c67be33c12e6bf192e4c32c8df39a486eb2de4be192116083569", func := "loop.example/g01317/laws.FnExactSplitRing", spec := "fnExactSplitRing", inPlace := ["math.Float64bits", "math.Float64frombits"], unfollowed := true, recurses := true, apart := false, narrowed := true }
def FnExactSplitRingUptoSaid : Prop := fnExactSplitRingUptoRow.holds Try.pinned (OpenSpec.upto fnExactSplitRingSpec)

/-- 'laws.FnExactJoinRing', WHERE WHAT IT READS IS OF BULK AT MOST 1048576: true; the input reads as it did. -/
def fnExactJoinRingUptoRow : OpenClaim := { program := "ytfhngajodfjkeaa", sum := "9ec24a19caf3c67be33c12e6bf192e4c32c8df39a486eb2de4be192116083569", func := "loop.example/g01317/laws.FnExactJoinRing", spec := "fnExactJoinRing", inPlace := ["math.Float64bits", "math.Float64frombits"], unfollowed := true, recurses := true, apart := false, narrowed := true }
def FnExactJoinRingUptoSaid : Prop := fnExactJoinRingUptoRow.holds Try.pinned (OpenSpec.upto fnExactJoinRingSpec)

/-- 'laws.FnExactValidBands', WHERE WHAT IT READS IS OF BULK AT MOST 1048576: true; the input reads as it did. -/
def fnExactValidBandsUptoRow : OpenClaim := { program := "ytfhngajodfjkeaa", sum := "9ec24a19caf3c67be33c12e6bf192e4c32c8df39a486eb2de4be192116083569", func := "loop.example/g01317/laws.FnExactValidBands", spec := "fnExactValidBands", inPlace := ["math.Float64bits", "math.Float64frombits"], unfollowed := true, recurses := true, apart := false, narrowed := true }
def FnExactValidBandsUptoSaid : Prop := fnExactValidBandsUptoRow.holds Try.pinned (OpenSpec.upto fnExactValidBandsSpec)

/-- 'laws.FnExactSameBands', WHERE WHAT IT READS IS OF BULK AT MOST 1048576: true; the input reads as it did. -/
def fnExactSameBandsUptoRow : OpenClaim := { program := "ytfhngajodfjkeaa", sum := "9ec24a19caf3c67be33c12e6bf192e4c32c8df39a486eb2de4be192116083569", func := "loop.example/g01317/laws.FnExactSameBands", spec := "fnExactSameBands", inPlace := ["math.Float32bits"], unfollowed := true, recurses := true, apart := false, narrowed := true }
def FnExactSameBandsUptoSaid : Prop := fnExactSameBandsUptoRow.holds Try.pinned (OpenSpec.upto fnExactSameBandsSpec)

/-- 'laws.FnExactSplitLevels', WHERE WHAT IT READS IS OF BULK AT MOST 1048576: true; the input reads as it did. -/
def fnExactSplitLevelsUptoRow : OpenClaim := { program := "ytfhngajodfjkeaa", sum := "9ec24a19caf3c67be33c12e6bf192e4c32c8df39a486eb2de4be192116083569", func := "loop.example/g01317/laws.FnExactSplitLevels", spec := "fnExactSplitLevels", inPlace := ["math.Float64bits", "math.Float64frombits"], unfollowed := true, recurses := true, apart := false, narrowed := true }
def FnExactSplitLevelsUptoSaid : Prop := fnExactSplitLevelsUptoRow.holds Try.pinned (OpenSpec.upto fnExactSplitLevelsSpec)

/-- 'laws.FnExactJoinLevels', WHERE WHAT IT READS IS OF BULK AT MOST 1048576: true; the input reads as it did. -/
def fnExactJoinLevelsUptoRow : OpenClaim := { program := "ytfhngajodfjkeaa", sum := "9ec24a19caf3c67be33c12e6bf192e4c32c8df39a486eb2de4be192116083569", func := "loop.example/g01317/laws.FnExactJoinLevels", spec := "fnExactJoinLevels", inPlace := ["math.Float64bits", "math.Float64frombits"], unfollowed := true, recurses := true, apart := false, narrowed := true }
def FnExactJoinLevelsUptoSaid : Prop := fnExactJoinLevelsUptoRow.holds Try.pinned (OpenSpec.upto fnExactJoinLevelsSpec)

/-- 'laws.FnExactPowersOfBands', WHERE WHAT IT READS IS OF BULK AT MOST 1048576: true; the input reads as it did. -/
def fnExactPowersOfBandsUptoRow : OpenClaim := { program := "ytfhngajodfjkeaa", sum := "9ec24a19caf3c67be33c12e6bf192e4c32c8df39a486eb2de4be192116083569", func := "loop.example/g01317/laws.FnExactPowersOfBands", spec := "fnExactPowersOfBands", inPlace := ["math.Float64bits", "math.Float64frombits"], unfollowed := true, recurses := true, apart := false, narrowed := true }
def FnExactPowersOfBandsUptoSaid : Prop := fnExactPowersOfBandsUptoRow.holds Try.pinned (OpenSpec.upto fnExactPowersOfBandsSpec)

end Rows
end Go.Proofs.Ytfhngajodfjkeaa
