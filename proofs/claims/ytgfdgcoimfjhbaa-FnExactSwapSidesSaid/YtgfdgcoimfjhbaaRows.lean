/-
  No cell of these rows narrows 'for every input' (looked for: loops, veiled, ifaces, maps, wideKeys, modest, calm, conditions, laid).
  DERIVED. THE GIVEN ROWS OF THIS SEAT. 12 by the template 'for every input the law returns true; each argument reads behind the call as it read before'; 0 by the template 'total and deterministic' (their statements: YtgfdgcoimfjhbaaTotals.lean).
  GIVEN WITH THE SEED: the statements are not yours to turn. If you find one false, say at which input.
  Laid BY PROGRAM, IN A SANDBOX (cutbox-rows.mjs): the forced cells as the released guide's own fill.sh prints them over the translation 2c2213e701431375… (all of the seat's roots in one cut). By AI agents, Wed Nov 11 2026. No macro, syntax, notation, axiom, sorry.
-/
import Derived.Test.YtgfdgcoimfjhbaaChecked
import GoSem.Claim
import GoSem.ClaimJoined
import GoSem.ClaimMapViews
import Derived.JoinedTies
import Derived.KernelRfl
namespace Go.Proofs.Ytgfdgcoimfjhbaa
/- THE CELL 'sum', in the pinned program and in every row, IS THE sha256 OF THE DUMP (.gsa) THAT YtgfdgcoimfjhbaaProg.lean LOADS. Nothing in Lean hashes anything: it is a label: what it is worth is what the hold of that sum in a sandbox is worth. -/
noncomputable def Try.pinned : Pinned := { name := "ytgfdgcoimfjhbaa", sum := "2c2213e70143137527359f21dbeb2e188fab49f0833115f33448df5c07ac5cc2", checked := Try.checked }
namespace Rows
def none {H : Type} : Left H := { results := [], args := [] }

/-- 'laws.FnExactValidPicture': WHATEVER THE INPUT: true; the input reads as it did. -/
def fnExactValidPictureSpec : ChangeSpec := { name := "fnExactValidPicture", fn := fun _ => fun
  | [d] => { results := [.lit (.bool true)], args := [d] }
  | _ => none }
def fnExactValidPictureRow : OpenClaim := { program := "ytgfdgcoimfjhbaa", sum := "2c2213e70143137527359f21dbeb2e188fab49f0833115f33448df5c07ac5cc2", func := "loop.example/g01317/laws.FnExactValidPicture", spec := "fnExactValidPicture", inPlace := ["math.Float64bits", "math.Float64frombits"], apart := false }
def FnExactValidPictureSaid : Prop := fnExactValidPictureRow.holds Try.pinned (OpenSpec.ofChange fnExactValidPictureSpec)

/-- ITS FALSE NEIGHBOUR: 'it returns false'. Refute it at one input. -/
def fnExactValidPictureWrong : ChangeSpec := { name := "fnExactValidPicture", fn := fun _ => fun
  | [d] => { results := [.lit (.bool false)], args := [d] }
  | _ => none }
def FnExactValidPictureWrongFalsely : Prop := fnExactValidPictureRow.holds Try.pinned (OpenSpec.ofChange fnExactValidPictureWrong)

/-- 'laws.FnExactSamePicture': WHATEVER THE INPUT: true; the input reads as it did. -/
def fnExactSamePictureSpec : ChangeSpec := { name := "fnExactSamePicture", fn := fun _ => fun
  | [d1, d2] => { results := [.lit (.bool true)], args := [d1, d2] }
  | _ => none }
def fnExactSamePictureRow : OpenClaim := { program := "ytgfdgcoimfjhbaa", sum := "2c2213e70143137527359f21dbeb2e188fab49f0833115f33448df5c07ac5cc2", func := "loop.example/g01317/laws.FnExactSamePicture", spec := "fnExactSamePicture", inPlace := ["math.Float32bits"], unfollowed := true, recurses := true, apart := false }
def FnExactSamePictureSaid : Prop := fnExactSamePictureRow.holds Try.pinned (OpenSpec.ofChange fnExactSamePictureSpec)

/-- ITS FALSE NEIGHBOUR: 'it returns false'. Refute it at one input. -/
def fnExactSamePictureWrong : ChangeSpec := { name := "fnExactSamePicture", fn := fun _ => fun
  | [d1, d2] => { results := [.lit (.bool false)], args := [d1, d2] }
  | _ => none }
def FnExactSamePictureWrongFalsely : Prop := fnExactSamePictureRow.holds Try.pinned (OpenSpec.ofChange fnExactSamePictureWrong)

/-- 'laws.FnExactPlainPicture': WHATEVER THE INPUT: true; the input reads as it did. -/
def fnExactPlainPictureSpec : ChangeSpec := { name := "fnExactPlainPicture", fn := fun _ => fun
  | [d1, d2, d3] => { results := [.lit (.bool true)], args := [d1, d2, d3] }
  | _ => none }
def fnExactPlainPictureRow : OpenClaim := { program := "ytgfdgcoimfjhbaa", sum := "2c2213e70143137527359f21dbeb2e188fab49f0833115f33448df5c07ac5cc2", func := "loop.example/g01317/laws.FnExactPlainPicture", spec := "fnExactPlainPicture", inPlace := ["math.Float64bits", "math.Float64frombits"], unfollowed := true, recurses := true, apart := false }
def FnExactPlainPictureSaid : Prop := fnExactPlainPictureRow.holds Try.pinned (OpenSpec.ofChange fnExactPlainPictureSpec)

/-- ITS FALSE NEIGHBOUR: 'it returns false'. Refute it at one input. -/
def fnExactPlainPictureWrong : ChangeSpec := { name := "fnExactPlainPicture", fn := fun _ => fun
  | [d1, d2, d3] => { results := [.lit (.bool false)], args := [d1, d2, d3] }
  | _ => none }
def FnExactPlainPictureWrongFalsely : Prop := fnExactPlainPictureRow.holds Try.pinned (OpenSpec.ofChange fnExactPlainPictureWrong)

/-- 'laws.FnExactStepPicture': WHATEVER THE INPUT: true; the input reads as it did. -/
def fnExactStepPictureSpec : ChangeSpec := { name := "fnExactStepPicture", fn := fun _ => fun
  | [d1, d2, d3, d4, d5] => { results := [.lit (.bool true)], args := [d1, d2, d3, d4, d5] }
  | _ => none }
def fnExactStepPictureRow : OpenClaim := { program := "ytgfdgcoimfjhbaa", sum := "2c2213e70143137527359f21dbeb2e188fab49f0833115f33448df5c07ac5cc2", func := "loop.example/g01317/laws.FnExactStepPicture", spec := "fnExactStepPicture", inPlace := ["math.Float64bits", "math.Float64frombits"], unfollowed := true, recurses := true, apart := false }
def FnExactStepPictureSaid : Prop := fnExactStepPictureRow.holds Try.pinned (OpenSpec.ofChange fnExactStepPictureSpec)

/-- ITS FALSE NEIGHBOUR: 'it returns false'. Refute it at one input. -/
def fnExactStepPictureWrong : ChangeSpec := { name := "fnExactStepPicture", fn := fun _ => fun
  | [d1, d2, d3, d4, d5] => { results := [.lit (.bool false)], args := [d1, d2, d3, d4, d5] }
  | _ => none }
def FnExactStepPictureWrongFalsely : Prop := fnExactStepPictureRow.holds Try.pinned (OpenSpec.ofChange fnExactStepPictureWrong)

/-- 'laws.FnExactCropPicture': WHATEVER THE INPUT: true; the input reads as it did. -/
def fnExactCropPictureSpec : ChangeSpec := { name := "fnExactCropPicture", fn := fun _ => fun
  | [d1, d2, d3, d4, d5] => { results := [.lit (.bool true)], args := [d1, d2, d3, d4, d5] }
  | _ => none }
def fnExactCropPictureRow : OpenClaim := { program := "ytgfdgcoimfjhbaa", sum := "2c2213e70143137527359f21dbeb2e188fab49f0833115f33448df5c07ac5cc2", func := "loop.example/g01317/laws.FnExactCropPicture", spec := "fnExactCropPicture", inPlace := ["math.Float64bits", "math.Float64frombits"], apart := false }
def FnExactCropPictureSaid : Prop := fnExactCropPictureRow.holds Try.pinned (OpenSpec.ofChange fnExactCropPictureSpec)

/-- ITS FALSE NEIGHBOUR: 'it returns false'. Refute it at one input. -/
def fnExactCropPictureWrong : ChangeSpec := { name := "fnExactCropPicture", fn := fun _ => fun
  | [d1, d2, d3, d4, d5] => { results := [.lit (.bool false)], args := [d1, d2, d3, d4, d5] }
  | _ => none }
def FnExactCropPictureWrongFalsely : Prop := fnExactCropPictureRow.holds Try.pinned (OpenSpec.ofChange fnExactCropPictureWrong)

/-- 'laws.FnExactPutPicture': WHATEVER THE INPUT: true; the input reads as it did. -/
def fnExactPutPictureSpec : ChangeSpec := { name := "fnExactPutPicture", fn := fun _ => fun
  | [d1, d2, d3, d4] => { results := [.lit (.bool true)], args := [d1, d2, d3, d4] }
  | _ => none }
def fnExactPutPictureRow : OpenClaim := { program := "ytgfdgcoimfjhbaa", sum := "2c2213e70143137527359f21dbeb2e188fab49f0833115f33448df5c07ac5cc2", func := "loop.example/g01317/laws.FnExactPutPicture", spec := "fnExactPutPicture", inPlace := ["math.Float64bits", "math.Float64frombits"], apart := false }
def FnExactPutPictureSaid : Prop := fnExactPutPictureRow.holds Try.pinned (OpenSpec.ofChange fnExactPutPictureSpec)

/-- ITS FALSE NEIGHBOUR: 'it returns false'. Refute it at one input. -/
def fnExactPutPictureWrong : ChangeSpec := { name := "fnExactPutPicture", fn := fun _ => fun
  | [d1, d2, d3, d4] => { results := [.lit (.bool false)], args := [d1, d2, d3, d4] }
  | _ => none }
def FnExactPutPictureWrongFalsely : Prop := fnExactPutPictureRow.holds Try.pinned (OpenSpec.ofChange fnExactPutPictureWrong)

/-- 'laws.FnExactSwapSides': WHATEVER THE INPUT: true; the input reads as it did. -/
def fnExactSwapSidesSpec : ChangeSpec := { name := "fnExactSwapSides", fn := fun _ => fun
  | [d] => { results := [.lit (.bool true)], args := [d] }
  | _ => none }
def fnExactSwapSidesRow : OpenClaim := { program := "ytgfdgcoimfjhbaa", sum := "2c2213e70143137527359f21dbeb2e188fab49f0833115f33448df5c07ac5cc2", func := "loop.example/g01317/laws.FnExactSwapSides", spec := "fnExactSwapSides", inPlace := ["math.Float64bits", "math.Float64frombits"], unfollowed := true, recurses := true, apart := false }
def FnExactSwapSidesSaid : Prop := fnExactSwapSidesRow.holds Try.pinned (OpenSpec.ofChange fnExactSwapSidesSpec)

/-- ITS FALSE NEIGHBOUR: 'it returns false'. Refute it at one input. -/
def fnExactSwapSidesWrong : ChangeSpec := { name := "fnExactSwapSides", fn := fun _ => fun
  | [d] => { results := [.lit (.bool false)], args := [d] }
  | _ => none }
def FnExactSwapSidesWrongFalsely : Prop := fnExactSwapSidesRow.holds Try.pinned (OpenSpec.ofChange fnExactSwapSidesWrong)

/-- 'laws.FnExactBlendPictures': WHATEVER THE INPUT: true; the input reads as it did. -/
def fnExactBlendPicturesSpec : ChangeSpec := { name := "fnExactBlendPictures", fn := fun _ => fun
  | [d1, d2, d3] => { results := [.lit (.bool true)], args := [d1, d2, d3] }
  | _ => none }
def fnExactBlendPicturesRow : OpenClaim := { program := "ytgfdgcoimfjhbaa", sum := "2c2213e70143137527359f21dbeb2e188fab49f0833115f33448df5c07ac5cc2", func := "loop.example/g01317/laws.FnExactBlendPictures", spec := "fnExactBlendPictures", inPlace := ["math.Float64bits", "math.Float64frombits"], unfollowed := true, recurses := true, apart := false }
def FnExactBlendPicturesSaid : Prop := fnExactBlendPicturesRow.holds Try.pinned (OpenSpec.ofChange fnExactBlendPicturesSpec)

/-- ITS FALSE NEIGHBOUR: 'it returns false'. Refute it at one input. -/
def fnExactBlendPicturesWrong : ChangeSpec := { name := "fnExactBlendPictures", fn := fun _ => fun
  | [d1, d2, d3] => { results := [.lit (.bool false)], args := [d1, d2, d3] }
  | _ => none }
def FnExactBlendPicturesWrongFalsely : Prop := fnExactBlendPicturesRow.holds Try.pinned (OpenSpec.ofChange fnExactBlendPicturesWrong)

/-- 'laws.FnExactEnergyOfPicture': WHATEVER THE INPUT: true; the input reads as it did. -/
def fnExactEnergyOfPictureSpec : ChangeSpec := { name := "fnExactEnergyOfPicture", fn := fun _ => fun
  | [d] => { results := [.lit (.bool true)], args := [d] }
  | _ => none }
def fnExactEnergyOfPictureRow : OpenClaim := { program := "ytgfdgcoimfjhbaa", sum := "2c2213e70143137527359f21dbeb2e188fab49f0833115f33448df5c07ac5cc2", func := "loop.example/g01317/laws.FnExactEnergyOfPicture", spec := "fnExactEnergyOfPicture", inPlace := ["math.Float64bits", "math.Float64frombits"], apart := false }
def FnExactEnergyOfPictureSaid : Prop := fnExactEnergyOfPictureRow.holds Try.pinned (OpenSpec.ofChange fnExactEnergyOfPictureSpec)

/-- ITS FALSE NEIGHBOUR: 'it returns false'. Refute it at one input. -/
def fnExactEnergyOfPictureWrong : ChangeSpec := { name := "fnExactEnergyOfPicture", fn := fun _ => fun
  | [d] => { results := [.lit (.bool false)], args := [d] }
  | _ => none }
def FnExactEnergyOfPictureWrongFalsely : Prop := fnExactEnergyOfPictureRow.holds Try.pinned (OpenSpec.ofChange fnExactEnergyOfPictureWrong)

/-- 'laws.FnExactDistanceOf': WHATEVER THE INPUT: true; the input reads as it did. -/
def fnExactDistanceOfSpec : ChangeSpec := { name := "fnExactDistanceOf", fn := fun _ => fun
  | [d1, d2] => { results := [.lit (.bool true)], args := [d1, d2] }
  | _ => none }
def fnExactDistanceOfRow : OpenClaim := { program := "ytgfdgcoimfjhbaa", sum := "2c2213e70143137527359f21dbeb2e188fab49f0833115f33448df5c07ac5cc2", func := "loop.example/g01317/laws.FnExactDistanceOf", spec := "fnExactDistanceOf", inPlace := ["math.sqrt", "math.Float64bits", "math.Float64frombits"], apart := false }
def FnExactDistanceOfSaid : Prop := fnExactDistanceOfRow.holds Try.pinned (OpenSpec.ofChange fnExactDistanceOfSpec)

/-- ITS FALSE NEIGHBOUR: 'it returns false'. Refute it at one input. -/
def fnExactDistanceOfWrong : ChangeSpec := { name := "fnExactDistanceOf", fn := fun _ => fun
  | [d1, d2] => { results := [.lit (.bool false)], args := [d1, d2] }
  | _ => none }
def FnExactDistanceOfWrongFalsely : Prop := fnExactDistanceOfRow.holds Try.pinned (OpenSpec.ofChange fnExactDistanceOfWrong)

/-- 'laws.FnExactPeakRatio': WHATEVER THE INPUT: true; the input reads as it did. -/
def fnExactPeakRatioSpec : ChangeSpec := { name := "fnExactPeakRatio", fn := fun _ => fun
  | [d1, d2, d3] => { results := [.lit (.bool true)], args := [d1, d2, d3] }
  | _ => none }
def fnExactPeakRatioRow : OpenClaim := { program := "ytgfdgcoimfjhbaa", sum := "2c2213e70143137527359f21dbeb2e188fab49f0833115f33448df5c07ac5cc2", func := "loop.example/g01317/laws.FnExactPeakRatio", spec := "fnExactPeakRatio", inPlace := ["math.sqrt", "math.Float64frombits", "math.Float64bits"], apart := false }
def FnExactPeakRatioSaid : Prop := fnExactPeakRatioRow.holds Try.pinned (OpenSpec.ofChange fnExactPeakRatioSpec)

/-- ITS FALSE NEIGHBOUR: 'it returns false'. Refute it at one input. -/
def fnExactPeakRatioWrong : ChangeSpec := { name := "fnExactPeakRatio", fn := fun _ => fun
  | [d1, d2, d3] => { results := [.lit (.bool false)], args := [d1, d2, d3] }
  | _ => none }
def FnExactPeakRatioWrongFalsely : Prop := fnExactPeakRatioRow.holds Try.pinned (OpenSpec.ofChange fnExactPeakRatioWrong)

/-- 'laws.FnExactRegionOf': WHATEVER THE INPUT: true; the input reads as it did. -/
def fnExactRegionOfSpec : ChangeSpec := { name := "fnExactRegionOf", fn := fun _ => fun
  | [d1, d2, d3, d4] => { results := [.lit (.bool true)], args := [d1, d2, d3, d4] }
  | _ => none }
def fnExactRegionOfRow : OpenClaim := { program := "ytgfdgcoimfjhbaa", sum := "2c2213e70143137527359f21dbeb2e188fab49f0833115f33448df5c07ac5cc2", func := "loop.example/g01317/laws.FnExactRegionOf", spec := "fnExactRegionOf", apart := false }
def FnExactRegionOfSaid : Prop := fnExactRegionOfRow.holds Try.pinned (OpenSpec.ofChange fnExactRegionOfSpec)

/-- ITS FALSE NEIGHBOUR: 'it returns false'. Refute it at one input. -/
def fnExactRegionOfWrong : ChangeSpec := { name := "fnExactRegionOf", fn := fun _ => fun
  | [d1, d2, d3, d4] => { results := [.lit (.bool false)], args := [d1, d2, d3, d4] }
  | _ => none }
def FnExactRegionOfWrongFalsely : Prop := fnExactRegionOfRow.holds Try.pinned (OpenSpec.ofChange fnExactRegionOfWrong)

/- THE SECOND FORM. 'bulk': how many values and letters a reading holds, each counted each time it is reached (what is shared counts as often as it is met; a slice's spare places count too). A statement '..UptoSaid' is the law's where the arguments, and the package variables that the reading takes, are together of bulk at most 1048576: NARROWER than '..Said'. Prove '..Said' where nothing that the law and all that it calls make is longer than what came in: it says more and counts as full. Else prove '..UptoSaid'. A law counts once. -/
mutual
def uptoBulk {H : Type} : DataW H → Nat
  | .lit (.string bytes) => bytes.length + 1
  | .lit _ => 1
  | .nil => 1
  | .ptr d => uptoBulk d + 1
  | .slice elems spare => uptoBulkAll elems + uptoBulkAll spare + 1
  | .agg parts => uptoBulkAll parts + 1
  | .iface _ d => uptoBulk d + 1
  | .map entries => uptoBulkEntries entries + 1
  | .held _ => 1
def uptoBulkAll {H : Type} : List (DataW H) → Nat
  | [] => 0
  | d :: r => uptoBulk d + uptoBulkAll r
def uptoBulkEntries {H : Type} : List (Lit × DataW H) → Nat
  | [] => 0
  | x :: r => uptoBulkEntry x + uptoBulkEntries r
def uptoBulkEntry {H : Type} : Lit × DataW H → Nat
  | (.string bytes, d) => bytes.length + uptoBulk d + 1
  | (_, d) => uptoBulk d + 1
 end
def uptoSmall : (H : Type) → List (DataW H) → Bool := fun _ ds => decide (uptoBulkAll ds ≤ 1048576)
def OpenSpec.upto (s : _root_.Go.ChangeSpec) : _root_.Go.OpenSpec := { _root_.Go.OpenSpec.ofChange s with cond := some uptoSmall }

/-- 'laws.FnExactValidPicture', WHERE WHAT IT READS IS OF BULK AT MOST 1048576: true; the input reads as it did. -/
def fnExactValidPictureUptoRow : OpenClaim := { program := "ytgfdgcoimfjhbaa", sum := "2c2213e70143137527359f21dbeb2e188fab49f0833115f33448df5c07ac5cc2", func := "loop.example/g01317/laws.FnExactValidPicture", spec := "fnExactValidPicture", inPlace := ["math.Float64bits", "math.Float64frombits"], apart := false, narrowed := true }
def FnExactValidPictureUptoSaid : Prop := fnExactValidPictureUptoRow.holds Try.pinned (OpenSpec.upto fnExactValidPictureSpec)

/-- 'laws.FnExactSamePicture', WHERE WHAT IT READS IS OF BULK AT MOST 1048576: true; the input reads as it did. -/
def fnExactSamePictureUptoRow : OpenClaim := { program := "ytgfdgcoimfjhbaa", sum := "2c2213e70143137527359f21dbeb2e188fab49f0833115f33448df5c07ac5cc2", func := "loop.example/g01317/laws.FnExactSamePicture", spec := "fnExactSamePicture", inPlace := ["math.Float32bits"], unfollowed := true, recurses := true, apart := false, narrowed := true }
def FnExactSamePictureUptoSaid : Prop := fnExactSamePictureUptoRow.holds Try.pinned (OpenSpec.upto fnExactSamePictureSpec)

/-- 'laws.FnExactPlainPicture', WHERE WHAT IT READS IS OF BULK AT MOST 1048576: true; the input reads as it did. -/
def fnExactPlainPictureUptoRow : OpenClaim := { program := "ytgfdgcoimfjhbaa", sum := "2c2213e70143137527359f21dbeb2e188fab49f0833115f33448df5c07ac5cc2", func := "loop.example/g01317/laws.FnExactPlainPicture", spec := "fnExactPlainPicture", inPlace := ["math.Float64bits", "math.Float64frombits"], unfollowed := true, recurses := true, apart := false, narrowed := true }
def FnExactPlainPictureUptoSaid : Prop := fnExactPlainPictureUptoRow.holds Try.pinned (OpenSpec.upto fnExactPlainPictureSpec)

/-- 'laws.FnExactStepPicture', WHERE WHAT IT READS IS OF BULK AT MOST 1048576: true; the input reads as it did. -/
def fnExactStepPictureUptoRow : OpenClaim := { program := "ytgfdgcoimfjhbaa", sum := "2c2213e70143137527359f21dbeb2e188fab49f0833115f33448df5c07ac5cc2", func := "loop.example/g01317/laws.FnExactStepPicture", spec := "fnExactStepPicture", inPlace := ["math.Float64bits", "math.Float64frombits"], unfollowed := true, recurses := true, apart := false, narrowed := true }
def FnExactStepPictureUptoSaid : Prop := fnExactStepPictureUptoRow.holds Try.pinned (OpenSpec.upto fnExactStepPictureSpec)

/-- 'laws.FnExactCropPicture', WHERE WHAT IT READS IS OF BULK AT MOST 1048576: true; the input reads as it did. -/
def fnExactCropPictureUptoRow : OpenClaim := { program := "ytgfdgcoimfjhbaa", sum := "2c2213e70143137527359f21dbeb2e188fab49f0833115f33448df5c07ac5cc2", func := "loop.example/g01317/laws.FnExactCropPicture", spec := "fnExactCropPicture", inPlace := ["math.Float64bits", "math.Float64frombits"], apart := false, narrowed := true }
def FnExactCropPictureUptoSaid : Prop := fnExactCropPictureUptoRow.holds Try.pinned (OpenSpec.upto fnExactCropPictureSpec)

/-- 'laws.FnExactPutPicture', WHERE WHAT IT READS IS OF BULK AT MOST 1048576: true; the input reads as it did. -/
def fnExactPutPictureUptoRow : OpenClaim := { program := "ytgfdgcoimfjhbaa", sum := "2c2213e70143137527359f21dbeb2e188fab49f0833115f33448df5c07ac5cc2", func := "loop.example/g01317/laws.FnExactPutPicture", spec := "fnExactPutPicture", inPlace := ["math.Float64bits", "math.Float64frombits"], apart := false, narrowed := true }
def FnExactPutPictureUptoSaid : Prop := fnExactPutPictureUptoRow.holds Try.pinned (OpenSpec.upto fnExactPutPictureSpec)

/-- 'laws.FnExactSwapSides', WHERE WHAT IT READS IS OF BULK AT MOST 1048576: true; the input reads as it did. -/
def fnExactSwapSidesUptoRow : OpenClaim := { program := "ytgfdgcoimfjhbaa", sum := "2c2213e70143137527359f21dbeb2e188fab49f0833115f33448df5c07ac5cc2", func := "loop.example/g01317/laws.FnExactSwapSides", spec := "fnExactSwapSides", inPlace := ["math.Float64bits", "math.Float64frombits"], unfollowed := true, recurses := true, apart := false, narrowed := true }
def FnExactSwapSidesUptoSaid : Prop := fnExactSwapSidesUptoRow.holds Try.pinned (OpenSpec.upto fnExactSwapSidesSpec)

/-- 'laws.FnExactBlendPictures', WHERE WHAT IT READS IS OF BULK AT MOST 1048576: true; the input reads as it did. -/
def fnExactBlendPicturesUptoRow : OpenClaim := { program := "ytgfdgcoimfjhbaa", sum := "2c2213e70143137527359f21dbeb2e188fab49f0833115f33448df5c07ac5cc2", func := "loop.example/g01317/laws.FnExactBlendPictures", spec := "fnExactBlendPictures", inPlace := ["math.Float64bits", "math.Float64frombits"], unfollowed := true, recurses := true, apart := false, narrowed := true }
def FnExactBlendPicturesUptoSaid : Prop := fnExactBlendPicturesUptoRow.holds Try.pinned (OpenSpec.upto fnExactBlendPicturesSpec)

/-- 'laws.FnExactEnergyOfPicture', WHERE WHAT IT READS IS OF BULK AT MOST 1048576: true; the input reads as it did. -/
def fnExactEnergyOfPictureUptoRow : OpenClaim := { program := "ytgfdgcoimfjhbaa", sum := "2c2213e70143137527359f21dbeb2e188fab49f0833115f33448df5c07ac5cc2", func := "loop.example/g01317/laws.FnExactEnergyOfPicture", spec := "fnExactEnergyOfPicture", inPlace := ["math.Float64bits", "math.Float64frombits"], apart := false, narrowed := true }
def FnExactEnergyOfPictureUptoSaid : Prop := fnExactEnergyOfPictureUptoRow.holds Try.pinned (OpenSpec.upto fnExactEnergyOfPictureSpec)

/-- 'laws.FnExactDistanceOf', WHERE WHAT IT READS IS OF BULK AT MOST 1048576: true; the input reads as it did. -/
def fnExactDistanceOfUptoRow : OpenClaim := { program := "ytgfdgcoimfjhbaa", sum := "2c2213e70143137527359f21dbeb2e188fab49f0833115f33448df5c07ac5cc2", func := "loop.example/g01317/laws.FnExactDistanceOf", spec := "fnExactDistanceOf", inPlace := ["math.sqrt", "math.Float64bits", "math.Float64frombits"], apart := false, narrowed := true }
def FnExactDistanceOfUptoSaid : Prop := fnExactDistanceOfUptoRow.holds Try.pinned (OpenSpec.upto fnExactDistanceOfSpec)

/-- 'laws.FnExactPeakRatio', WHERE WHAT IT READS IS OF BULK AT MOST 1048576: true; the input reads as it did. -/
def fnExactPeakRatioUptoRow : OpenClaim := { program := "ytgfdgcoimfjhbaa", sum := "2c2213e70143137527359f21dbeb2e188fab49f0833115f33448df5c07ac5cc2", func := "loop.example/g01317/laws.FnExactPeakRatio", spec := "fnExactPeakRatio", inPlace := ["math.sqrt", "math.Float64frombits", "math.Float64bits"], apart := false, narrowed := true }
def FnExactPeakRatioUptoSaid : Prop := fnExactPeakRatioUptoRow.holds Try.pinned (OpenSpec.upto fnExactPeakRatioSpec)

/-- 'laws.FnExactRegionOf', WHERE WHAT IT READS IS OF BULK AT MOST 1048576: true; the input reads as it did. -/
def fnExactRegionOfUptoRow : OpenClaim := { program := "ytgfdgcoimfjhbaa", sum := "2c2213e70143137527359f21dbeb2e188fab49f0833115f33448df5c07ac5cc2", func := "loop.example/g01317/laws.FnExactRegionOf", spec := "fnExactRegionOf", apart := false, narrowed := true }
def FnExactRegionOfUptoSaid : Prop := fnExactRegionOfUptoRow.holds Try.pinned (OpenSpec.upto fnExactRegionOfSpec)

end Rows
end Go.Proofs.Ytgfdgcoimfjhbaa
