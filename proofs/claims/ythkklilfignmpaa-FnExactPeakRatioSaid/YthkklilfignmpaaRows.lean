/-
  No cell of these rows narrows 'for every input' (looked for: loops, veiled, ifaces, maps, wideKeys, modest, calm, conditions, laid).
  DERIVED. THE GIVEN ROWS OF THIS SEAT. 12 by the template 'for every input the law returns true; each argument reads behind the call as it read before'; 0 by the template 'total and deterministic' (their statements: YthkklilfignmpaaTotals.lean).
  GIVEN WITH THE SEED: the statements are not yours to turn. If you find one false, say at which input.
  Laid BY PROGRAM, IN A SANDBOX (cutbox-rows.mjs): the forced cells as the released guide's own fill.sh prints them over the translation 35495ee8976529be… (all of the seat's roots in one cut). By AI agents, Wed Nov 11 2026. No macro, syntax, notation, axiom, sorry.
-/
import Derived.Test.YthkklilfignmpaaChecked
import GoSem.Claim
import GoSem.ClaimJoined
import GoSem.ClaimMapViews
import Derived.JoinedTies
import Derived.KernelRfl
namespace Go.Proofs.Ythkklilfignmpaa
/- THE CELL 'sum', in the pinned program and in every row, IS THE sha256 OF THE DUMP (.gsa) THAT YthkklilfignmpaaProg.lean LOADS. Nothing in Lean hashes anything: it is a label: what it is worth is what the hold of that sum in a sandbox is worth. -/
noncomputable def Try.pinned : Pinned := { name := "ythkklilfignmpaa", sum := "35495ee8976529beab51a5dffc0f7b979cd2a22daa7c136aa2dffd06bd10820a", checked := Try.checked }
namespace Rows
def none {H : Type} : Left H := { results := [], args := [] }

/-- 'laws.FnExactValidDesk': WHATEVER THE INPUT: true; the input reads as it did. -/
def fnExactValidDeskSpec : ChangeSpec := { name := "fnExactValidDesk", fn := fun _ => fun
  | [d] => { results := [.lit (.bool true)], args := [d] }
  | _ => none }
def fnExactValidDeskRow : OpenClaim := { program := "ythkklilfignmpaa", sum := "35495ee8976529beab51a5dffc0f7b979cd2a22daa7c136aa2dffd06bd10820a", func := "loop.example/g01317/laws.FnExactValidDesk", spec := "fnExactValidDesk", inPlace := ["math.Float64bits", "math.Float64frombits"], apart := false }
def FnExactValidDeskSaid : Prop := fnExactValidDeskRow.holds Try.pinned (OpenSpec.ofChange fnExactValidDeskSpec)

/-- ITS FALSE NEIGHBOUR: 'it returns false'. Refute it at one input. -/
def fnExactValidDeskWrong : ChangeSpec := { name := "fnExactValidDesk", fn := fun _ => fun
  | [d] => { results := [.lit (.bool false)], args := [d] }
  | _ => none }
def FnExactValidDeskWrongFalsely : Prop := fnExactValidDeskRow.holds Try.pinned (OpenSpec.ofChange fnExactValidDeskWrong)

/-- 'laws.FnExactSameDesk': WHATEVER THE INPUT: true; the input reads as it did. -/
def fnExactSameDeskSpec : ChangeSpec := { name := "fnExactSameDesk", fn := fun _ => fun
  | [d1, d2] => { results := [.lit (.bool true)], args := [d1, d2] }
  | _ => none }
def fnExactSameDeskRow : OpenClaim := { program := "ythkklilfignmpaa", sum := "35495ee8976529beab51a5dffc0f7b979cd2a22daa7c136aa2dffd06bd10820a", func := "loop.example/g01317/laws.FnExactSameDesk", spec := "fnExactSameDesk", inPlace := ["math.Float32bits"], unfollowed := true, recurses := true, apart := false }
def FnExactSameDeskSaid : Prop := fnExactSameDeskRow.holds Try.pinned (OpenSpec.ofChange fnExactSameDeskSpec)

/-- ITS FALSE NEIGHBOUR: 'it returns false'. Refute it at one input. -/
def fnExactSameDeskWrong : ChangeSpec := { name := "fnExactSameDesk", fn := fun _ => fun
  | [d1, d2] => { results := [.lit (.bool false)], args := [d1, d2] }
  | _ => none }
def FnExactSameDeskWrongFalsely : Prop := fnExactSameDeskRow.holds Try.pinned (OpenSpec.ofChange fnExactSameDeskWrong)

/-- 'laws.FnExactValidTake': WHATEVER THE INPUT: true; the input reads as it did. -/
def fnExactValidTakeSpec : ChangeSpec := { name := "fnExactValidTake", fn := fun _ => fun
  | [d] => { results := [.lit (.bool true)], args := [d] }
  | _ => none }
def fnExactValidTakeRow : OpenClaim := { program := "ythkklilfignmpaa", sum := "35495ee8976529beab51a5dffc0f7b979cd2a22daa7c136aa2dffd06bd10820a", func := "loop.example/g01317/laws.FnExactValidTake", spec := "fnExactValidTake", apart := false }
def FnExactValidTakeSaid : Prop := fnExactValidTakeRow.holds Try.pinned (OpenSpec.ofChange fnExactValidTakeSpec)

/-- ITS FALSE NEIGHBOUR: 'it returns false'. Refute it at one input. -/
def fnExactValidTakeWrong : ChangeSpec := { name := "fnExactValidTake", fn := fun _ => fun
  | [d] => { results := [.lit (.bool false)], args := [d] }
  | _ => none }
def FnExactValidTakeWrongFalsely : Prop := fnExactValidTakeRow.holds Try.pinned (OpenSpec.ofChange fnExactValidTakeWrong)

/-- 'laws.FnExactSameTakes': WHATEVER THE INPUT: true; the input reads as it did. -/
def fnExactSameTakesSpec : ChangeSpec := { name := "fnExactSameTakes", fn := fun _ => fun
  | [d1, d2] => { results := [.lit (.bool true)], args := [d1, d2] }
  | _ => none }
def fnExactSameTakesRow : OpenClaim := { program := "ythkklilfignmpaa", sum := "35495ee8976529beab51a5dffc0f7b979cd2a22daa7c136aa2dffd06bd10820a", func := "loop.example/g01317/laws.FnExactSameTakes", spec := "fnExactSameTakes", inPlace := ["math.Float32bits"], unfollowed := true, recurses := true, apart := false }
def FnExactSameTakesSaid : Prop := fnExactSameTakesRow.holds Try.pinned (OpenSpec.ofChange fnExactSameTakesSpec)

/-- ITS FALSE NEIGHBOUR: 'it returns false'. Refute it at one input. -/
def fnExactSameTakesWrong : ChangeSpec := { name := "fnExactSameTakes", fn := fun _ => fun
  | [d1, d2] => { results := [.lit (.bool false)], args := [d1, d2] }
  | _ => none }
def FnExactSameTakesWrongFalsely : Prop := fnExactSameTakesRow.holds Try.pinned (OpenSpec.ofChange fnExactSameTakesWrong)

/-- 'laws.FnExactEdgeCosts': WHATEVER THE INPUT: true; the input reads as it did. -/
def fnExactEdgeCostsSpec : ChangeSpec := { name := "fnExactEdgeCosts", fn := fun _ => fun
  | [d] => { results := [.lit (.bool true)], args := [d] }
  | _ => none }
def fnExactEdgeCostsRow : OpenClaim := { program := "ythkklilfignmpaa", sum := "35495ee8976529beab51a5dffc0f7b979cd2a22daa7c136aa2dffd06bd10820a", func := "loop.example/g01317/laws.FnExactEdgeCosts", spec := "fnExactEdgeCosts", inPlace := ["math.Float64bits", "math.Float64frombits"], apart := false }
def FnExactEdgeCostsSaid : Prop := fnExactEdgeCostsRow.holds Try.pinned (OpenSpec.ofChange fnExactEdgeCostsSpec)

/-- ITS FALSE NEIGHBOUR: 'it returns false'. Refute it at one input. -/
def fnExactEdgeCostsWrong : ChangeSpec := { name := "fnExactEdgeCosts", fn := fun _ => fun
  | [d] => { results := [.lit (.bool false)], args := [d] }
  | _ => none }
def FnExactEdgeCostsWrongFalsely : Prop := fnExactEdgeCostsRow.holds Try.pinned (OpenSpec.ofChange fnExactEdgeCostsWrong)

/-- 'laws.FnExactCropPicture': WHATEVER THE INPUT: true; the input reads as it did. -/
def fnExactCropPictureSpec : ChangeSpec := { name := "fnExactCropPicture", fn := fun _ => fun
  | [d1, d2, d3, d4, d5] => { results := [.lit (.bool true)], args := [d1, d2, d3, d4, d5] }
  | _ => none }
def fnExactCropPictureRow : OpenClaim := { program := "ythkklilfignmpaa", sum := "35495ee8976529beab51a5dffc0f7b979cd2a22daa7c136aa2dffd06bd10820a", func := "loop.example/g01317/laws.FnExactCropPicture", spec := "fnExactCropPicture", inPlace := ["math.Float64bits", "math.Float64frombits"], apart := false }
def FnExactCropPictureSaid : Prop := fnExactCropPictureRow.holds Try.pinned (OpenSpec.ofChange fnExactCropPictureSpec)

/-- ITS FALSE NEIGHBOUR: 'it returns false'. Refute it at one input. -/
def fnExactCropPictureWrong : ChangeSpec := { name := "fnExactCropPicture", fn := fun _ => fun
  | [d1, d2, d3, d4, d5] => { results := [.lit (.bool false)], args := [d1, d2, d3, d4, d5] }
  | _ => none }
def FnExactCropPictureWrongFalsely : Prop := fnExactCropPictureRow.holds Try.pinned (OpenSpec.ofChange fnExactCropPictureWrong)

/-- 'laws.FnExactBlendPictures': WHATEVER THE INPUT: true; the input reads as it did. -/
def fnExactBlendPicturesSpec : ChangeSpec := { name := "fnExactBlendPictures", fn := fun _ => fun
  | [d1, d2, d3] => { results := [.lit (.bool true)], args := [d1, d2, d3] }
  | _ => none }
def fnExactBlendPicturesRow : OpenClaim := { program := "ythkklilfignmpaa", sum := "35495ee8976529beab51a5dffc0f7b979cd2a22daa7c136aa2dffd06bd10820a", func := "loop.example/g01317/laws.FnExactBlendPictures", spec := "fnExactBlendPictures", inPlace := ["math.Float64bits", "math.Float64frombits"], unfollowed := true, recurses := true, apart := false }
def FnExactBlendPicturesSaid : Prop := fnExactBlendPicturesRow.holds Try.pinned (OpenSpec.ofChange fnExactBlendPicturesSpec)

/-- ITS FALSE NEIGHBOUR: 'it returns false'. Refute it at one input. -/
def fnExactBlendPicturesWrong : ChangeSpec := { name := "fnExactBlendPictures", fn := fun _ => fun
  | [d1, d2, d3] => { results := [.lit (.bool false)], args := [d1, d2, d3] }
  | _ => none }
def FnExactBlendPicturesWrongFalsely : Prop := fnExactBlendPicturesRow.holds Try.pinned (OpenSpec.ofChange fnExactBlendPicturesWrong)

/-- 'laws.FnExactDistanceOf': WHATEVER THE INPUT: true; the input reads as it did. -/
def fnExactDistanceOfSpec : ChangeSpec := { name := "fnExactDistanceOf", fn := fun _ => fun
  | [d1, d2] => { results := [.lit (.bool true)], args := [d1, d2] }
  | _ => none }
def fnExactDistanceOfRow : OpenClaim := { program := "ythkklilfignmpaa", sum := "35495ee8976529beab51a5dffc0f7b979cd2a22daa7c136aa2dffd06bd10820a", func := "loop.example/g01317/laws.FnExactDistanceOf", spec := "fnExactDistanceOf", inPlace := ["math.sqrt", "math.Float64bits", "math.Float64frombits"], apart := false }
def FnExactDistanceOfSaid : Prop := fnExactDistanceOfRow.holds Try.pinned (OpenSpec.ofChange fnExactDistanceOfSpec)

/-- ITS FALSE NEIGHBOUR: 'it returns false'. Refute it at one input. -/
def fnExactDistanceOfWrong : ChangeSpec := { name := "fnExactDistanceOf", fn := fun _ => fun
  | [d1, d2] => { results := [.lit (.bool false)], args := [d1, d2] }
  | _ => none }
def FnExactDistanceOfWrongFalsely : Prop := fnExactDistanceOfRow.holds Try.pinned (OpenSpec.ofChange fnExactDistanceOfWrong)

/-- 'laws.FnExactPeakRatio': WHATEVER THE INPUT: true; the input reads as it did. -/
def fnExactPeakRatioSpec : ChangeSpec := { name := "fnExactPeakRatio", fn := fun _ => fun
  | [d1, d2, d3] => { results := [.lit (.bool true)], args := [d1, d2, d3] }
  | _ => none }
def fnExactPeakRatioRow : OpenClaim := { program := "ythkklilfignmpaa", sum := "35495ee8976529beab51a5dffc0f7b979cd2a22daa7c136aa2dffd06bd10820a", func := "loop.example/g01317/laws.FnExactPeakRatio", spec := "fnExactPeakRatio", inPlace := ["math.sqrt", "math.Float64frombits", "math.Float64bits"], apart := false }
def FnExactPeakRatioSaid : Prop := fnExactPeakRatioRow.holds Try.pinned (OpenSpec.ofChange fnExactPeakRatioSpec)

/-- ITS FALSE NEIGHBOUR: 'it returns false'. Refute it at one input. -/
def fnExactPeakRatioWrong : ChangeSpec := { name := "fnExactPeakRatio", fn := fun _ => fun
  | [d1, d2, d3] => { results := [.lit (.bool false)], args := [d1, d2, d3] }
  | _ => none }
def FnExactPeakRatioWrongFalsely : Prop := fnExactPeakRatioRow.holds Try.pinned (OpenSpec.ofChange fnExactPeakRatioWrong)

/-- 'laws.FnExactJoinRing': WHATEVER THE INPUT: true; the input reads as it did. -/
def fnExactJoinRingSpec : ChangeSpec := { name := "fnExactJoinRing", fn := fun _ => fun
  | [d1, d2, d3] => { results := [.lit (.bool true)], args := [d1, d2, d3] }
  | _ => none }
def fnExactJoinRingRow : OpenClaim := { program := "ythkklilfignmpaa", sum := "35495ee8976529beab51a5dffc0f7b979cd2a22daa7c136aa2dffd06bd10820a", func := "loop.example/g01317/laws.FnExactJoinRing", spec := "fnExactJoinRing", inPlace := ["math.Float64bits", "math.Float64frombits"], unfollowed := true, recurses := true, apart := false }
def FnExactJoinRingSaid : Prop := fnExactJoinRingRow.holds Try.pinned (OpenSpec.ofChange fnExactJoinRingSpec)

/-- ITS FALSE NEIGHBOUR: 'it returns false'. Refute it at one input. -/
def fnExactJoinRingWrong : ChangeSpec := { name := "fnExactJoinRing", fn := fun _ => fun
  | [d1, d2, d3] => { results := [.lit (.bool false)], args := [d1, d2, d3] }
  | _ => none }
def FnExactJoinRingWrongFalsely : Prop := fnExactJoinRingRow.holds Try.pinned (OpenSpec.ofChange fnExactJoinRingWrong)

/-- 'laws.FnExactSeasonOf': WHATEVER THE INPUT: true; the input reads as it did. -/
def fnExactSeasonOfSpec : ChangeSpec := { name := "fnExactSeasonOf", fn := fun _ => fun
  | [d1, d2] => { results := [.lit (.bool true)], args := [d1, d2] }
  | _ => none }
def fnExactSeasonOfRow : OpenClaim := { program := "ythkklilfignmpaa", sum := "35495ee8976529beab51a5dffc0f7b979cd2a22daa7c136aa2dffd06bd10820a", func := "loop.example/g01317/laws.FnExactSeasonOf", spec := "fnExactSeasonOf", inPlace := ["math.Float64bits", "math.Float64frombits"], apart := false }
def FnExactSeasonOfSaid : Prop := fnExactSeasonOfRow.holds Try.pinned (OpenSpec.ofChange fnExactSeasonOfSpec)

/-- ITS FALSE NEIGHBOUR: 'it returns false'. Refute it at one input. -/
def fnExactSeasonOfWrong : ChangeSpec := { name := "fnExactSeasonOf", fn := fun _ => fun
  | [d1, d2] => { results := [.lit (.bool false)], args := [d1, d2] }
  | _ => none }
def FnExactSeasonOfWrongFalsely : Prop := fnExactSeasonOfRow.holds Try.pinned (OpenSpec.ofChange fnExactSeasonOfWrong)

/-- 'laws.FnExactWithoutSeason': WHATEVER THE INPUT: true; the input reads as it did. -/
def fnExactWithoutSeasonSpec : ChangeSpec := { name := "fnExactWithoutSeason", fn := fun _ => fun
  | [d1, d2] => { results := [.lit (.bool true)], args := [d1, d2] }
  | _ => none }
def fnExactWithoutSeasonRow : OpenClaim := { program := "ythkklilfignmpaa", sum := "35495ee8976529beab51a5dffc0f7b979cd2a22daa7c136aa2dffd06bd10820a", func := "loop.example/g01317/laws.FnExactWithoutSeason", spec := "fnExactWithoutSeason", inPlace := ["math.Float64bits", "math.Float64frombits"], apart := false }
def FnExactWithoutSeasonSaid : Prop := fnExactWithoutSeasonRow.holds Try.pinned (OpenSpec.ofChange fnExactWithoutSeasonSpec)

/-- ITS FALSE NEIGHBOUR: 'it returns false'. Refute it at one input. -/
def fnExactWithoutSeasonWrong : ChangeSpec := { name := "fnExactWithoutSeason", fn := fun _ => fun
  | [d1, d2] => { results := [.lit (.bool false)], args := [d1, d2] }
  | _ => none }
def FnExactWithoutSeasonWrongFalsely : Prop := fnExactWithoutSeasonRow.holds Try.pinned (OpenSpec.ofChange fnExactWithoutSeasonWrong)

/- THE SECOND FORM. 'bulk': how many values and letters a reading holds, each counted each time it is reached (what is shared counts as often as it is met; a slice's spare places count too). A statement '..UptoSaid' is the law's where the arguments, and the package variables that the reading takes, are together of bulk at most 1048576: NARROWER than '..Said'. Prove '..Said' where nothing that the law and all that it calls make is longer than what came in: it says more and counts as full. Else prove '..UptoSaid'. A law counts once. -/
mutual
def uptoBulk {H : Type} : DataW H → Nat
  | .lit (.string bytes) => bytes.length + 1
  | .lit _ => 1
  | .nil => 1
  | .ptr d => uptoBulk d + 1
  | .slice elems spare => uptoBulkAll elems + uptoBulkAll spare + 1
  | .agg parts => uptoBulkAll parts + 1
  | .iface _ d => uptoBulk d + 1
  | .map entries => uptoBulkEntries entries + 1
  | .held _ => 1
def uptoBulkAll {H : Type} : List (DataW H) → Nat
  | [] => 0
  | d :: r => uptoBulk d + uptoBulkAll r
def uptoBulkEntries {H : Type} : List (Lit × DataW H) → Nat
  | [] => 0
  | x :: r => uptoBulkEntry x + uptoBulkEntries r
def uptoBulkEntry {H : Type} : Lit × DataW H → Nat
  | (.string bytes, d) => bytes.length + uptoBulk d + 1
  | (_, d) => uptoBulk d + 1
 end
def uptoSmall : (H : Type) → List (DataW H) → Bool := fun _ ds => decide (uptoBulkAll ds ≤ 1048576)
def OpenSpec.upto (s : _root_.Go.ChangeSpec) : _root_.Go.OpenSpec := { _root_.Go.OpenSpec.ofChange s with cond := some uptoSmall }

/-- 'laws.FnExactValidDesk', WHERE WHAT IT READS IS OF BULK AT MOST 1048576: true; the input reads as it did. -/
def fnExactValidDeskUptoRow : OpenClaim := { program := "ythkklilfignmpaa", sum := "35495ee8976529beab51a5dffc0f7b979cd2a22daa7c136aa2dffd06bd10820a", func := "loop.example/g01317/laws.FnExactValidDesk", spec := "fnExactValidDesk", inPlace := ["math.Float64bits", "math.Float64frombits"], apart := false, narrowed := true }
def FnExactValidDeskUptoSaid : Prop := fnExactValidDeskUptoRow.holds Try.pinned (OpenSpec.upto fnExactValidDeskSpec)

/-- 'laws.FnExactSameDesk', WHERE WHAT IT READS IS OF BULK AT MOST 1048576: true; the input reads as it did. -/
def fnExactSameDeskUptoRow : OpenClaim := { program := "ythkklilfignmpaa", sum := "35495ee8976529beab51a5dffc0f7b979cd2a22daa7c136aa2dffd06bd10820a", func := "loop.example/g01317/laws.FnExactSameDesk", spec := "fnExactSameDesk", inPlace := ["math.Float32bits"], unfollowed := true, recurses := true, apart := false, narrowed := true }
def FnExactSameDeskUptoSaid : Prop := fnExactSameDeskUptoRow.holds Try.pinned (OpenSpec.upto fnExactSameDeskSpec)

/-- 'laws.FnExactValidTake', WHERE WHAT IT READS IS OF BULK AT MOST 1048576: true; the input reads as it did. -/
def fnExactValidTakeUptoRow : OpenClaim := { program := "ythkklilfignmpaa", sum := "35495ee8976529beab51a5dffc0f7b979cd2a22daa7c136aa2dffd06bd10820a", func := "loop.example/g01317/laws.FnExactValidTake", spec := "fnExactValidTake", apart := false, narrowed := true }
def FnExactValidTakeUptoSaid : Prop := fnExactValidTakeUptoRow.holds Try.pinned (OpenSpec.upto fnExactValidTakeSpec)

/-- 'laws.FnExactSameTakes', WHERE WHAT IT READS IS OF BULK AT MOST 1048576: true; the input reads as it did. -/
def fnExactSameTakesUptoRow : OpenClaim := { program := "ythkklilfignmpaa", sum := "35495ee8976529beab51a5dffc0f7b979cd2a22daa7c136aa2dffd06bd10820a", func := "loop.example/g01317/laws.FnExactSameTakes", spec := "fnExactSameTakes", inPlace := ["math.Float32bits"], unfollowed := true, recurses := true, apart := false, narrowed := true }
def FnExactSameTakesUptoSaid : Prop := fnExactSameTakesUptoRow.holds Try.pinned (OpenSpec.upto fnExactSameTakesSpec)

/-- 'laws.FnExactEdgeCosts', WHERE WHAT IT READS IS OF BULK AT MOST 1048576: true; the input reads as it did. -/
def fnExactEdgeCostsUptoRow : OpenClaim := { program := "ythkklilfignmpaa", sum := "35495ee8976529beab51a5dffc0f7b979cd2a22daa7c136aa2dffd06bd10820a", func := "loop.example/g01317/laws.FnExactEdgeCosts", spec := "fnExactEdgeCosts", inPlace := ["math.Float64bits", "math.Float64frombits"], apart := false, narrowed := true }
def FnExactEdgeCostsUptoSaid : Prop := fnExactEdgeCostsUptoRow.holds Try.pinned (OpenSpec.upto fnExactEdgeCostsSpec)

/-- 'laws.FnExactCropPicture', WHERE WHAT IT READS IS OF BULK AT MOST 1048576: true; the input reads as it did. -/
def fnExactCropPictureUptoRow : OpenClaim := { program := "ythkklilfignmpaa", sum := "35495ee8976529beab51a5dffc0f7b979cd2a22daa7c136aa2dffd06bd10820a", func := "loop.example/g01317/laws.FnExactCropPicture", spec := "fnExactCropPicture", inPlace := ["math.Float64bits", "math.Float64frombits"], apart := false, narrowed := true }
def FnExactCropPictureUptoSaid : Prop := fnExactCropPictureUptoRow.holds Try.pinned (OpenSpec.upto fnExactCropPictureSpec)

/-- 'laws.FnExactBlendPictures', WHERE WHAT IT READS IS OF BULK AT MOST 1048576: true; the input reads as it did. -/
def fnExactBlendPicturesUptoRow : OpenClaim := { program := "ythkklilfignmpaa", sum := "35495ee8976529beab51a5dffc0f7b979cd2a22daa7c136aa2dffd06bd10820a", func := "loop.example/g01317/laws.FnExactBlendPictures", spec := "fnExactBlendPictures", inPlace := ["math.Float64bits", "math.Float64frombits"], unfollowed := true, recurses := true, apart := false, narrowed := true }
def FnExactBlendPicturesUptoSaid : Prop := fnExactBlendPicturesUptoRow.holds Try.pinned (OpenSpec.upto fnExactBlendPicturesSpec)

/-- 'laws.FnExactDistanceOf', WHERE WHAT IT READS IS OF BULK AT MOST 1048576: true; the input reads as it did. -/
def fnExactDistanceOfUptoRow : OpenClaim := { program := "ythkklilfignmpaa", sum := "35495ee8976529beab51a5dffc0f7b979cd2a22daa7c136aa2dffd06bd10820a", func := "loop.example/g01317/laws.FnExactDistanceOf", spec := "fnExactDistanceOf", inPlace := ["math.sqrt", "math.Float64bits", "math.Float64frombits"], apart := false, narrowed := true }
def FnExactDistanceOfUptoSaid : Prop := fnExactDistanceOfUptoRow.holds Try.pinned (OpenSpec.upto fnExactDistanceOfSpec)

/-- 'laws.FnExactPeakRatio', WHERE WHAT IT READS IS OF BULK AT MOST 1048576: true; the input reads as it did. -/
def fnExactPeakRatioUptoRow : OpenClaim := { program := "ythkklilfignmpaa", sum := "35495ee8976529beab51a5dffc0f7b979cd2a22daa7c136aa2dffd06bd10820a", func := "loop.example/g01317/laws.FnExactPeakRatio", spec := "fnExactPeakRatio", inPlace := ["math.sqrt", "math.Float64frombits", "math.Float64bits"], apart := false, narrowed := true }
def FnExactPeakRatioUptoSaid : Prop := fnExactPeakRatioUptoRow.holds Try.pinned (OpenSpec.upto fnExactPeakRatioSpec)

/-- 'laws.FnExactJoinRing', WHERE WHAT IT READS IS OF BULK AT MOST 1048576: true; the input reads as it did. -/
def fnExactJoinRingUptoRow : OpenClaim := { program := "ythkklilfignmpaa", sum := "35495ee8976529beab51a5dffc0f7b979cd2a22daa7c136aa2dffd06bd10820a", func := "loop.example/g01317/laws.FnExactJoinRing", spec := "fnExactJoinRing", inPlace := ["math.Float64bits", "math.Float64frombits"], unfollowed := true, recurses := true, apart := false, narrowed := true }
def FnExactJoinRingUptoSaid : Prop := fnExactJoinRingUptoRow.holds Try.pinned (OpenSpec.upto fnExactJoinRingSpec)

/-- 'laws.FnExactSeasonOf', WHERE WHAT IT READS IS OF BULK AT MOST 1048576: true; the input reads as it did. -/
def fnExactSeasonOfUptoRow : OpenClaim := { program := "ythkklilfignmpaa", sum := "35495ee8976529beab51a5dffc0f7b979cd2a22daa7c136aa2dffd06bd10820a", func := "loop.example/g01317/laws.FnExactSeasonOf", spec := "fnExactSeasonOf", inPlace := ["math.Float64bits", "math.Float64frombits"], apart := false, narrowed := true }
def FnExactSeasonOfUptoSaid : Prop := fnExactSeasonOfUptoRow.holds Try.pinned (OpenSpec.upto fnExactSeasonOfSpec)

/-- 'laws.FnExactWithoutSeason', WHERE WHAT IT READS IS OF BULK AT MOST 1048576: true; the input reads as it did. -/
def fnExactWithoutSeasonUptoRow : OpenClaim := { program := "ythkklilfignmpaa", sum := "35495ee8976529beab51a5dffc0f7b979cd2a22daa7c136aa2dffd06bd10820a", func := "loop.example/g01317/laws.FnExactWithoutSeason", spec := "fnExactWithoutSeason", inPlace := ["math.Float64bits", "math.Float64frombits"], apart := false, narrowed := true }
def FnExactWithoutSeasonUptoSaid : Prop := fnExactWithoutSeasonUptoRow.holds Try.pinned (OpenSpec.upto fnExactWithoutSeasonSpec)

end Rows
end Go.Proofs.Ythkklilfignmpaa
