/-
  No cell of these rows narrows 'for every input' (looked for: loops, veiled, ifaces, maps, wideKeys, modest, calm, conditions, laid).
  DERIVED. THE GIVEN ROWS OF THIS SEAT. 12 by the template 'for every input the law returns true; each argument reads behind the call as it read before'; 0 by the template 'total and deterministic' (their statements: YtfbdmhkmkmbipaaTotals.lean).
  GIVEN WITH THE SEED: the statements are not yours to turn. If you find one false, say at which input.
  Laid BY PROGRAM, IN A SANDBOX (cutbox-rows.mjs): the forced cells as the released guide's own fill.sh prints them over the translation 74fe65c6f48067ee… (all of the seat's roots in one cut). By AI agents, Wed Nov 11 2026. No macro, syntax, notation, axiom, sorry.
-/
import Derived.Test.YtfbdmhkmkmbipaaChecked
import GoSem.Claim
import GoSem.ClaimJoined
import GoSem.ClaimMapViews
import Derived.JoinedTies
import Derived.KernelRfl
namespace Go.Proofs.Ytfbdmhkmkmbipaa
/- THE CELL 'sum', in the pinned program and in every row, IS THE sha256 OF THE DUMP (.gsa) THAT YtfbdmhkmkmbipaaProg.lean LOADS. Nothing in Lean hashes anything: it is a label: what it is worth is what the hold of that sum in a sandbox is worth. -/
noncomputable def Try.pinned : Pinned := { name := "ytfbdmhkmkmbipaa", sum := "74fe65c6f48067ee3270e19ec45c9607b5166963e4ef2f1f32f57e5e9c093eff", checked := Try.checked }
namespace Rows
def none {H : Type} : Left H := { results := [], args := [] }

/-- 'laws.FnExactLiftOnce': WHATEVER THE INPUT: true; the input reads as it did. -/
def fnExactLiftOnceSpec : ChangeSpec := { name := "fnExactLiftOnce", fn := fun _ => fun
  | [d1, d2] => { results := [.lit (.bool true)], args := [d1, d2] }
  | _ => none }
def fnExactLiftOnceRow : OpenClaim := { program := "ytfbdmhkmkmbipaa", sum := "74fe65c6f48067ee3270e19ec45c9607b5166963e4ef2f1f32f57e5e9c093eff", func := "loop.example/g01317/laws.FnExactLiftOnce", spec := "fnExactLiftOnce", inPlace := ["math.Float64bits", "math.Float64frombits"], unfollowed := true, recurses := true, apart := false }
def FnExactLiftOnceSaid : Prop := fnExactLiftOnceRow.holds Try.pinned (OpenSpec.ofChange fnExactLiftOnceSpec)

/-- ITS FALSE NEIGHBOUR: 'it returns false'. Refute it at one input. -/
def fnExactLiftOnceWrong : ChangeSpec := { name := "fnExactLiftOnce", fn := fun _ => fun
  | [d1, d2] => { results := [.lit (.bool false)], args := [d1, d2] }
  | _ => none }
def FnExactLiftOnceWrongFalsely : Prop := fnExactLiftOnceRow.holds Try.pinned (OpenSpec.ofChange fnExactLiftOnceWrong)

/-- 'laws.FnExactDropOnce': WHATEVER THE INPUT: true; the input reads as it did. -/
def fnExactDropOnceSpec : ChangeSpec := { name := "fnExactDropOnce", fn := fun _ => fun
  | [d1, d2, d3] => { results := [.lit (.bool true)], args := [d1, d2, d3] }
  | _ => none }
def fnExactDropOnceRow : OpenClaim := { program := "ytfbdmhkmkmbipaa", sum := "74fe65c6f48067ee3270e19ec45c9607b5166963e4ef2f1f32f57e5e9c093eff", func := "loop.example/g01317/laws.FnExactDropOnce", spec := "fnExactDropOnce", inPlace := ["math.Float64bits", "math.Float64frombits"], unfollowed := true, recurses := true, apart := false }
def FnExactDropOnceSaid : Prop := fnExactDropOnceRow.holds Try.pinned (OpenSpec.ofChange fnExactDropOnceSpec)

/-- ITS FALSE NEIGHBOUR: 'it returns false'. Refute it at one input. -/
def fnExactDropOnceWrong : ChangeSpec := { name := "fnExactDropOnce", fn := fun _ => fun
  | [d1, d2, d3] => { results := [.lit (.bool false)], args := [d1, d2, d3] }
  | _ => none }
def FnExactDropOnceWrongFalsely : Prop := fnExactDropOnceRow.holds Try.pinned (OpenSpec.ofChange fnExactDropOnceWrong)

/-- 'laws.FnExactGrowList': WHATEVER THE INPUT: true; the input reads as it did. -/
def fnExactGrowListSpec : ChangeSpec := { name := "fnExactGrowList", fn := fun _ => fun
  | [d1, d2] => { results := [.lit (.bool true)], args := [d1, d2] }
  | _ => none }
def fnExactGrowListRow : OpenClaim := { program := "ytfbdmhkmkmbipaa", sum := "74fe65c6f48067ee3270e19ec45c9607b5166963e4ef2f1f32f57e5e9c093eff", func := "loop.example/g01317/laws.FnExactGrowList", spec := "fnExactGrowList", inPlace := ["math.Float64bits", "math.Float64frombits"], unfollowed := true, recurses := true, apart := false }
def FnExactGrowListSaid : Prop := fnExactGrowListRow.holds Try.pinned (OpenSpec.ofChange fnExactGrowListSpec)

/-- ITS FALSE NEIGHBOUR: 'it returns false'. Refute it at one input. -/
def fnExactGrowListWrong : ChangeSpec := { name := "fnExactGrowList", fn := fun _ => fun
  | [d1, d2] => { results := [.lit (.bool false)], args := [d1, d2] }
  | _ => none }
def FnExactGrowListWrongFalsely : Prop := fnExactGrowListRow.holds Try.pinned (OpenSpec.ofChange fnExactGrowListWrong)

/-- 'laws.FnExactLiftDeep': WHATEVER THE INPUT: true; the input reads as it did. -/
def fnExactLiftDeepSpec : ChangeSpec := { name := "fnExactLiftDeep", fn := fun _ => fun
  | [d1, d2, d3] => { results := [.lit (.bool true)], args := [d1, d2, d3] }
  | _ => none }
def fnExactLiftDeepRow : OpenClaim := { program := "ytfbdmhkmkmbipaa", sum := "74fe65c6f48067ee3270e19ec45c9607b5166963e4ef2f1f32f57e5e9c093eff", func := "loop.example/g01317/laws.FnExactLiftDeep", spec := "fnExactLiftDeep", inPlace := ["math.Float64bits", "math.Float64frombits"], unfollowed := true, recurses := true, apart := false }
def FnExactLiftDeepSaid : Prop := fnExactLiftDeepRow.holds Try.pinned (OpenSpec.ofChange fnExactLiftDeepSpec)

/-- ITS FALSE NEIGHBOUR: 'it returns false'. Refute it at one input. -/
def fnExactLiftDeepWrong : ChangeSpec := { name := "fnExactLiftDeep", fn := fun _ => fun
  | [d1, d2, d3] => { results := [.lit (.bool false)], args := [d1, d2, d3] }
  | _ => none }
def FnExactLiftDeepWrongFalsely : Prop := fnExactLiftDeepRow.holds Try.pinned (OpenSpec.ofChange fnExactLiftDeepWrong)

/-- 'laws.FnExactPutPicture': WHATEVER THE INPUT: true; the input reads as it did. -/
def fnExactPutPictureSpec : ChangeSpec := { name := "fnExactPutPicture", fn := fun _ => fun
  | [d1, d2, d3, d4] => { results := [.lit (.bool true)], args := [d1, d2, d3, d4] }
  | _ => none }
def fnExactPutPictureRow : OpenClaim := { program := "ytfbdmhkmkmbipaa", sum := "74fe65c6f48067ee3270e19ec45c9607b5166963e4ef2f1f32f57e5e9c093eff", func := "loop.example/g01317/laws.FnExactPutPicture", spec := "fnExactPutPicture", inPlace := ["math.Float64bits", "math.Float64frombits"], apart := false }
def FnExactPutPictureSaid : Prop := fnExactPutPictureRow.holds Try.pinned (OpenSpec.ofChange fnExactPutPictureSpec)

/-- ITS FALSE NEIGHBOUR: 'it returns false'. Refute it at one input. -/
def fnExactPutPictureWrong : ChangeSpec := { name := "fnExactPutPicture", fn := fun _ => fun
  | [d1, d2, d3, d4] => { results := [.lit (.bool false)], args := [d1, d2, d3, d4] }
  | _ => none }
def FnExactPutPictureWrongFalsely : Prop := fnExactPutPictureRow.holds Try.pinned (OpenSpec.ofChange fnExactPutPictureWrong)

/-- 'laws.FnExactBlendPictures': WHATEVER THE INPUT: true; the input reads as it did. -/
def fnExactBlendPicturesSpec : ChangeSpec := { name := "fnExactBlendPictures", fn := fun _ => fun
  | [d1, d2, d3] => { results := [.lit (.bool true)], args := [d1, d2, d3] }
  | _ => none }
def fnExactBlendPicturesRow : OpenClaim := { program := "ytfbdmhkmkmbipaa", sum := "74fe65c6f48067ee3270e19ec45c9607b5166963e4ef2f1f32f57e5e9c093eff", func := "loop.example/g01317/laws.FnExactBlendPictures", spec := "fnExactBlendPictures", inPlace := ["math.Float64bits", "math.Float64frombits"], unfollowed := true, recurses := true, apart := false }
def FnExactBlendPicturesSaid : Prop := fnExactBlendPicturesRow.holds Try.pinned (OpenSpec.ofChange fnExactBlendPicturesSpec)

/-- ITS FALSE NEIGHBOUR: 'it returns false'. Refute it at one input. -/
def fnExactBlendPicturesWrong : ChangeSpec := { name := "fnExactBlendPictures", fn := fun _ => fun
  | [d1, d2, d3] => { results := [.lit (.bool false)], args := [d1, d2, d3] }
  | _ => none }
def FnExactBlendPicturesWrongFalsely : Prop := fnExactBlendPicturesRow.holds Try.pinned (OpenSpec.ofChange fnExactBlendPicturesWrong)

/-- 'laws.FnExactLiftRows': WHATEVER THE INPUT: true; the input reads as it did. -/
def fnExactLiftRowsSpec : ChangeSpec := { name := "fnExactLiftRows", fn := fun _ => fun
  | [d1, d2] => { results := [.lit (.bool true)], args := [d1, d2] }
  | _ => none }
def fnExactLiftRowsRow : OpenClaim := { program := "ytfbdmhkmkmbipaa", sum := "74fe65c6f48067ee3270e19ec45c9607b5166963e4ef2f1f32f57e5e9c093eff", func := "loop.example/g01317/laws.FnExactLiftRows", spec := "fnExactLiftRows", inPlace := ["math.Float64bits", "math.Float64frombits"], unfollowed := true, recurses := true, apart := false }
def FnExactLiftRowsSaid : Prop := fnExactLiftRowsRow.holds Try.pinned (OpenSpec.ofChange fnExactLiftRowsSpec)

/-- ITS FALSE NEIGHBOUR: 'it returns false'. Refute it at one input. -/
def fnExactLiftRowsWrong : ChangeSpec := { name := "fnExactLiftRows", fn := fun _ => fun
  | [d1, d2] => { results := [.lit (.bool false)], args := [d1, d2] }
  | _ => none }
def FnExactLiftRowsWrongFalsely : Prop := fnExactLiftRowsRow.holds Try.pinned (OpenSpec.ofChange fnExactLiftRowsWrong)

/-- 'laws.FnExactBandOf': WHATEVER THE INPUT: true; the input reads as it did. -/
def fnExactBandOfSpec : ChangeSpec := { name := "fnExactBandOf", fn := fun _ => fun
  | [d1, d2, d3] => { results := [.lit (.bool true)], args := [d1, d2, d3] }
  | _ => none }
def fnExactBandOfRow : OpenClaim := { program := "ytfbdmhkmkmbipaa", sum := "74fe65c6f48067ee3270e19ec45c9607b5166963e4ef2f1f32f57e5e9c093eff", func := "loop.example/g01317/laws.FnExactBandOf", spec := "fnExactBandOf", inPlace := ["math.Float64bits", "math.Float64frombits"], apart := false }
def FnExactBandOfSaid : Prop := fnExactBandOfRow.holds Try.pinned (OpenSpec.ofChange fnExactBandOfSpec)

/-- ITS FALSE NEIGHBOUR: 'it returns false'. Refute it at one input. -/
def fnExactBandOfWrong : ChangeSpec := { name := "fnExactBandOf", fn := fun _ => fun
  | [d1, d2, d3] => { results := [.lit (.bool false)], args := [d1, d2, d3] }
  | _ => none }
def FnExactBandOfWrongFalsely : Prop := fnExactBandOfRow.holds Try.pinned (OpenSpec.ofChange fnExactBandOfWrong)

/-- 'laws.FnExactEnergiesIn': WHATEVER THE INPUT: true; the input reads as it did. -/
def fnExactEnergiesInSpec : ChangeSpec := { name := "fnExactEnergiesIn", fn := fun _ => fun
  | [d1, d2] => { results := [.lit (.bool true)], args := [d1, d2] }
  | _ => none }
def fnExactEnergiesInRow : OpenClaim := { program := "ytfbdmhkmkmbipaa", sum := "74fe65c6f48067ee3270e19ec45c9607b5166963e4ef2f1f32f57e5e9c093eff", func := "loop.example/g01317/laws.FnExactEnergiesIn", spec := "fnExactEnergiesIn", inPlace := ["math.Float64bits", "math.Float64frombits"], unfollowed := true, recurses := true, apart := false }
def FnExactEnergiesInSaid : Prop := fnExactEnergiesInRow.holds Try.pinned (OpenSpec.ofChange fnExactEnergiesInSpec)

/-- ITS FALSE NEIGHBOUR: 'it returns false'. Refute it at one input. -/
def fnExactEnergiesInWrong : ChangeSpec := { name := "fnExactEnergiesIn", fn := fun _ => fun
  | [d1, d2] => { results := [.lit (.bool false)], args := [d1, d2] }
  | _ => none }
def FnExactEnergiesInWrongFalsely : Prop := fnExactEnergiesInRow.holds Try.pinned (OpenSpec.ofChange fnExactEnergiesInWrong)

/-- 'laws.FnExactQuietPicture': WHATEVER THE INPUT: true; the input reads as it did. -/
def fnExactQuietPictureSpec : ChangeSpec := { name := "fnExactQuietPicture", fn := fun _ => fun
  | [d1, d2, d3] => { results := [.lit (.bool true)], args := [d1, d2, d3] }
  | _ => none }
def fnExactQuietPictureRow : OpenClaim := { program := "ytfbdmhkmkmbipaa", sum := "74fe65c6f48067ee3270e19ec45c9607b5166963e4ef2f1f32f57e5e9c093eff", func := "loop.example/g01317/laws.FnExactQuietPicture", spec := "fnExactQuietPicture", inPlace := ["math.Float64bits", "math.Float64frombits"], unfollowed := true, recurses := true, apart := false }
def FnExactQuietPictureSaid : Prop := fnExactQuietPictureRow.holds Try.pinned (OpenSpec.ofChange fnExactQuietPictureSpec)

/-- ITS FALSE NEIGHBOUR: 'it returns false'. Refute it at one input. -/
def fnExactQuietPictureWrong : ChangeSpec := { name := "fnExactQuietPicture", fn := fun _ => fun
  | [d1, d2, d3] => { results := [.lit (.bool false)], args := [d1, d2, d3] }
  | _ => none }
def FnExactQuietPictureWrongFalsely : Prop := fnExactQuietPictureRow.holds Try.pinned (OpenSpec.ofChange fnExactQuietPictureWrong)

/-- 'laws.FnExactSoftPicture': WHATEVER THE INPUT: true; the input reads as it did. -/
def fnExactSoftPictureSpec : ChangeSpec := { name := "fnExactSoftPicture", fn := fun _ => fun
  | [d1, d2, d3] => { results := [.lit (.bool true)], args := [d1, d2, d3] }
  | _ => none }
def fnExactSoftPictureRow : OpenClaim := { program := "ytfbdmhkmkmbipaa", sum := "74fe65c6f48067ee3270e19ec45c9607b5166963e4ef2f1f32f57e5e9c093eff", func := "loop.example/g01317/laws.FnExactSoftPicture", spec := "fnExactSoftPicture", inPlace := ["math.Float64bits", "math.Float64frombits"], unfollowed := true, recurses := true, apart := false }
def FnExactSoftPictureSaid : Prop := fnExactSoftPictureRow.holds Try.pinned (OpenSpec.ofChange fnExactSoftPictureSpec)

/-- ITS FALSE NEIGHBOUR: 'it returns false'. Refute it at one input. -/
def fnExactSoftPictureWrong : ChangeSpec := { name := "fnExactSoftPicture", fn := fun _ => fun
  | [d1, d2, d3] => { results := [.lit (.bool false)], args := [d1, d2, d3] }
  | _ => none }
def FnExactSoftPictureWrongFalsely : Prop := fnExactSoftPictureRow.holds Try.pinned (OpenSpec.ofChange fnExactSoftPictureWrong)

/-- 'laws.FnExactRoughestPlace': WHATEVER THE INPUT: true; the input reads as it did. -/
def fnExactRoughestPlaceSpec : ChangeSpec := { name := "fnExactRoughestPlace", fn := fun _ => fun
  | [d1, d2] => { results := [.lit (.bool true)], args := [d1, d2] }
  | _ => none }
def fnExactRoughestPlaceRow : OpenClaim := { program := "ytfbdmhkmkmbipaa", sum := "74fe65c6f48067ee3270e19ec45c9607b5166963e4ef2f1f32f57e5e9c093eff", func := "loop.example/g01317/laws.FnExactRoughestPlace", spec := "fnExactRoughestPlace", inPlace := ["math.Float64bits", "math.Float64frombits"], unfollowed := true, recurses := true, apart := false }
def FnExactRoughestPlaceSaid : Prop := fnExactRoughestPlaceRow.holds Try.pinned (OpenSpec.ofChange fnExactRoughestPlaceSpec)

/-- ITS FALSE NEIGHBOUR: 'it returns false'. Refute it at one input. -/
def fnExactRoughestPlaceWrong : ChangeSpec := { name := "fnExactRoughestPlace", fn := fun _ => fun
  | [d1, d2] => { results := [.lit (.bool false)], args := [d1, d2] }
  | _ => none }
def FnExactRoughestPlaceWrongFalsely : Prop := fnExactRoughestPlaceRow.holds Try.pinned (OpenSpec.ofChange fnExactRoughestPlaceWrong)

/- THE SECOND FORM. 'bulk': how many values and letters a reading holds, each counted each time it is reached (what is shared counts as often as it is met; a slice's spare places count too). A statement '..UptoSaid' is the law's where the arguments, and the package variables that the reading takes, are together of bulk at most 1048576: NARROWER than '..Said'. Prove '..Said' where nothing that the law and all that it calls make is longer than what came in: it says more and counts as full. Else prove '..UptoSaid'. A law counts once. -/
mutual
def uptoBulk {H : Type} : DataW H → Nat
  | .lit (.string bytes) => bytes.length + 1
  | .lit _ => 1
  | .nil => 1
  | .ptr d => uptoBulk d + 1
  | .slice elems spare => uptoBulkAll elems + uptoBulkAll spare + 1
  | .agg parts => uptoBulkAll parts + 1
  | .iface _ d => uptoBulk d + 1
  | .map entries => uptoBulkEntries entries + 1
  | .held _ => 1
def uptoBulkAll {H : Type} : List (DataW H) → Nat
  | [] => 0
  | d :: r => uptoBulk d + uptoBulkAll r
def uptoBulkEntries {H : Type} : List (Lit × DataW H) → Nat
  | [] => 0
  | x :: r => uptoBulkEntry x + uptoBulkEntries r
def uptoBulkEntry {H : Type} : Lit × DataW H → Nat
  | (.string bytes, d) => bytes.length + uptoBulk d + 1
  | (_, d) => uptoBulk d + 1
 end
def uptoSmall : (H : Type) → List (DataW H) → Bool := fun _ ds => decide (uptoBulkAll ds ≤ 1048576)
def OpenSpec.upto (s : _root_.Go.ChangeSpec) : _root_.Go.OpenSpec := { _root_.Go.OpenSpec.ofChange s with cond := some uptoSmall }

/-- 'laws.FnExactLiftOnce', WHERE WHAT IT READS IS OF BULK AT MOST 1048576: true; the input reads as it did. -/
def fnExactLiftOnceUptoRow : OpenClaim := { program := "ytfbdmhkmkmbipaa", sum := "74fe65c6f48067ee3270e19ec45c9607b5166963e4ef2f1f32f57e5e9c093eff", func := "loop.example/g01317/laws.FnExactLiftOnce", spec := "fnExactLiftOnce", inPlace := ["math.Float64bits", "math.Float64frombits"], unfollowed := true, recurses := true, apart := false, narrowed := true }
def FnExactLiftOnceUptoSaid : Prop := fnExactLiftOnceUptoRow.holds Try.pinned (OpenSpec.upto fnExactLiftOnceSpec)

/-- 'laws.FnExactDropOnce', WHERE WHAT IT READS IS OF BULK AT MOST 1048576: true; the input reads as it did. -/
def fnExactDropOnceUptoRow : OpenClaim := { program := "ytfbdmhkmkmbipaa", sum := "74fe65c6f48067ee3270e19ec45c9607b5166963e4ef2f1f32f57e5e9c093eff", func := "loop.example/g01317/laws.FnExactDropOnce", spec := "fnExactDropOnce", inPlace := ["math.Float64bits", "math.Float64frombits"], unfollowed := true, recurses := true, apart := false, narrowed := true }
def FnExactDropOnceUptoSaid : Prop := fnExactDropOnceUptoRow.holds Try.pinned (OpenSpec.upto fnExactDropOnceSpec)

/-- 'laws.FnExactGrowList', WHERE WHAT IT READS IS OF BULK AT MOST 1048576: true; the input reads as it did. -/
def fnExactGrowListUptoRow : OpenClaim := { program := "ytfbdmhkmkmbipaa", sum := "74fe65c6f48067ee3270e19ec45c9607b5166963e4ef2f1f32f57e5e9c093eff", func := "loop.example/g01317/laws.FnExactGrowList", spec := "fnExactGrowList", inPlace := ["math.Float64bits", "math.Float64frombits"], unfollowed := true, recurses := true, apart := false, narrowed := true }
def FnExactGrowListUptoSaid : Prop := fnExactGrowListUptoRow.holds Try.pinned (OpenSpec.upto fnExactGrowListSpec)

/-- 'laws.FnExactLiftDeep', WHERE WHAT IT READS IS OF BULK AT MOST 1048576: true; the input reads as it did. -/
def fnExactLiftDeepUptoRow : OpenClaim := { program := "ytfbdmhkmkmbipaa", sum := "74fe65c6f48067ee3270e19ec45c9607b5166963e4ef2f1f32f57e5e9c093eff", func := "loop.example/g01317/laws.FnExactLiftDeep", spec := "fnExactLiftDeep", inPlace := ["math.Float64bits", "math.Float64frombits"], unfollowed := true, recurses := true, apart := false, narrowed := true }
def FnExactLiftDeepUptoSaid : Prop := fnExactLiftDeepUptoRow.holds Try.pinned (OpenSpec.upto fnExactLiftDeepSpec)

/-- 'laws.FnExactPutPicture', WHERE WHAT IT READS IS OF BULK AT MOST 1048576: true; the input reads as it did. -/
def fnExactPutPictureUptoRow : OpenClaim := { program := "ytfbdmhkmkmbipaa", sum := "74fe65c6f48067ee3270e19ec45c9607b5166963e4ef2f1f32f57e5e9c093eff", func := "loop.example/g01317/laws.FnExactPutPicture", spec := "fnExactPutPicture", inPlace := ["math.Float64bits", "math.Float64frombits"], apart := false, narrowed := true }
def FnExactPutPictureUptoSaid : Prop := fnExactPutPictureUptoRow.holds Try.pinned (OpenSpec.upto fnExactPutPictureSpec)

/-- 'laws.FnExactBlendPictures', WHERE WHAT IT READS IS OF BULK AT MOST 1048576: true; the input reads as it did. -/
def fnExactBlendPicturesUptoRow : OpenClaim := { program := "ytfbdmhkmkmbipaa", sum := "74fe65c6f48067ee3270e19ec45c9607b5166963e4ef2f1f32f57e5e9c093eff", func := "loop.example/g01317/laws.FnExactBlendPictures", spec := "fnExactBlendPictures", inPlace := ["math.Float64bits", "math.Float64frombits"], unfollowed := true, recurses := true, apart := false, narrowed := true }
def FnExactBlendPicturesUptoSaid : Prop := fnExactBlendPicturesUptoRow.holds Try.pinned (OpenSpec.upto fnExactBlendPicturesSpec)

/-- 'laws.FnExactLiftRows', WHERE WHAT IT READS IS OF BULK AT MOST 1048576: true; the input reads as it did. -/
def fnExactLiftRowsUptoRow : OpenClaim := { program := "ytfbdmhkmkmbipaa", sum := "74fe65c6f48067ee3270e19ec45c9607b5166963e4ef2f1f32f57e5e9c093eff", func := "loop.example/g01317/laws.FnExactLiftRows", spec := "fnExactLiftRows", inPlace := ["math.Float64bits", "math.Float64frombits"], unfollowed := true, recurses := true, apart := false, narrowed := true }
def FnExactLiftRowsUptoSaid : Prop := fnExactLiftRowsUptoRow.holds Try.pinned (OpenSpec.upto fnExactLiftRowsSpec)

/-- 'laws.FnExactBandOf', WHERE WHAT IT READS IS OF BULK AT MOST 1048576: true; the input reads as it did. -/
def fnExactBandOfUptoRow : OpenClaim := { program := "ytfbdmhkmkmbipaa", sum := "74fe65c6f48067ee3270e19ec45c9607b5166963e4ef2f1f32f57e5e9c093eff", func := "loop.example/g01317/laws.FnExactBandOf", spec := "fnExactBandOf", inPlace := ["math.Float64bits", "math.Float64frombits"], apart := false, narrowed := true }
def FnExactBandOfUptoSaid : Prop := fnExactBandOfUptoRow.holds Try.pinned (OpenSpec.upto fnExactBandOfSpec)

/-- 'laws.FnExactEnergiesIn', WHERE WHAT IT READS IS OF BULK AT MOST 1048576: true; the input reads as it did. -/
def fnExactEnergiesInUptoRow : OpenClaim := { program := "ytfbdmhkmkmbipaa", sum := "74fe65c6f48067ee3270e19ec45c9607b5166963e4ef2f1f32f57e5e9c093eff", func := "loop.example/g01317/laws.FnExactEnergiesIn", spec := "fnExactEnergiesIn", inPlace := ["math.Float64bits", "math.Float64frombits"], unfollowed := true, recurses := true, apart := false, narrowed := true }
def FnExactEnergiesInUptoSaid : Prop := fnExactEnergiesInUptoRow.holds Try.pinned (OpenSpec.upto fnExactEnergiesInSpec)

/-- 'laws.FnExactQuietPicture', WHERE WHAT IT READS IS OF BULK AT MOST 1048576: true; the input reads as it did. -/
def fnExactQuietPictureUptoRow : OpenClaim := { program := "ytfbdmhkmkmbipaa", sum := "74fe65c6f48067ee3270e19ec45c9607b5166963e4ef2f1f32f57e5e9c093eff", func := "loop.example/g01317/laws.FnExactQuietPicture", spec := "fnExactQuietPicture", inPlace := ["math.Float64bits", "math.Float64frombits"], unfollowed := true, recurses := true, apart := false, narrowed := true }
def FnExactQuietPictureUptoSaid : Prop := fnExactQuietPictureUptoRow.holds Try.pinned (OpenSpec.upto fnExactQuietPictureSpec)

/-- 'laws.FnExactSoftPicture', WHERE WHAT IT READS IS OF BULK AT MOST 1048576: true; the input reads as it did. -/
def fnExactSoftPictureUptoRow : OpenClaim := { program := "ytfbdmhkmkmbipaa", sum := "74fe65c6f48067ee3270e19ec45c9607b5166963e4ef2f1f32f57e5e9c093eff", func := "loop.example/g01317/laws.FnExactSoftPicture", spec := "fnExactSoftPicture", inPlace := ["math.Float64bits", "math.Float64frombits"], unfollowed := true, recurses := true, apart := false, narrowed := true }
def FnExactSoftPictureUptoSaid : Prop := fnExactSoftPictureUptoRow.holds Try.pinned (OpenSpec.upto fnExactSoftPictureSpec)

/-- 'laws.FnExactRoughestPlace', WHERE WHAT IT READS IS OF BULK AT MOST 1048576: true; the input reads as it did. -/
def fnExactRoughestPlaceUptoRow : OpenClaim := { program := "ytfbdmhkmkmbipaa", sum := "74fe65c6f48067ee3270e19ec45c9607b5166963e4ef2f1f32f57e5e9c093eff", func := "loop.example/g01317/laws.FnExactRoughestPlace", spec := "fnExactRoughestPlace", inPlace := ["math.Float64bits", "math.Float64frombits"], unfollowed := true, recurses := true, apart := false, narrowed := true }
def FnExactRoughestPlaceUptoSaid : Prop := fnExactRoughestPlaceUptoRow.holds Try.pinned (OpenSpec.upto fnExactRoughestPlaceSpec)

end Rows
end Go.Proofs.Ytfbdmhkmkmbipaa
