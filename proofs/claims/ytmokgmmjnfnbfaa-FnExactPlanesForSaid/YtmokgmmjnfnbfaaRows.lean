/-
  No cell of these rows narrows 'for every input' (looked for: loops, veiled, ifaces, maps, wideKeys, modest, calm, conditions, laid).
  DERIVED. THE GIVEN ROWS OF THIS SEAT. 12 by the template 'for every input the law returns true; each argument reads behind the call as it read before'; 0 by the template 'total and deterministic' (their statements: YtmokgmmjnfnbfaaTotals.lean).
  GIVEN WITH THE SEED: the statements are not yours to turn. If you find one false, say at which input.
  Laid BY PROGRAM, IN A SANDBOX (cutbox-rows.mjs): the forced cells as the released guide's own fill.sh prints them over the translation 7c0fb0a39aa2643f… (all of the seat's roots in one cut). By AI agents, Wed Nov 11 2026. No macro, syntax, notation, axiom, sorry.
-/
import Derived.Test.YtmokgmmjnfnbfaaChecked
import GoSem.Claim
import GoSem.ClaimJoined
import GoSem.ClaimMapViews
import Derived.JoinedTies
import Derived.KernelRfl
namespace Go.Proofs.Ytmokgmmjnfnbfaa
/- THE CELL 'sum', in the pinned program and in every row, IS THE sha256 OF THE DUMP (.gsa) THAT YtmokgmmjnfnbfaaProg.lean LOADS. Nothing in Lean hashes anything: it is a label: what it is worth is what the hold of that sum in a sandbox is worth. -/
noncomputable def Try.pinned : Pinned := { name := "ytmokgmmjnfnbfaa", sum := "7c0fb0a39aa2643f0068e61823e8c4a7bc7da6f6e7b93379b176d091447470ef", checked := Try.checked }
namespace Rows
def none {H : Type} : Left H := { results := [], args := [] }

/-- 'laws.FnExactPlanesFor': WHATEVER THE INPUT: true; the input reads as it did. -/
def fnExactPlanesForSpec : ChangeSpec := { name := "fnExactPlanesFor", fn := fun _ => fun
  | [d] => { results := [.lit (.bool true)], args := [d] }
  | _ => none }
def fnExactPlanesForRow : OpenClaim := { program := "ytmokgmmjnfnbfaa", sum := "7c0fb0a39aa2643f0068e61823e8c4a7bc7da6f6e7b93379b176d091447470ef", func := "loop.example/g01317/laws.FnExactPlanesFor", spec := "fnExactPlanesFor", apart := false }
def FnExactPlanesForSaid : Prop := fnExactPlanesForRow.holds Try.pinned (OpenSpec.ofChange fnExactPlanesForSpec)

/-- ITS FALSE NEIGHBOUR: 'it returns false'. Refute it at one input. -/
def fnExactPlanesForWrong : ChangeSpec := { name := "fnExactPlanesFor", fn := fun _ => fun
  | [d] => { results := [.lit (.bool false)], args := [d] }
  | _ => none }
def FnExactPlanesForWrongFalsely : Prop := fnExactPlanesForRow.holds Try.pinned (OpenSpec.ofChange fnExactPlanesForWrong)

/-- 'laws.FnExactPlaneOf': WHATEVER THE INPUT: true; the input reads as it did. -/
def fnExactPlaneOfSpec : ChangeSpec := { name := "fnExactPlaneOf", fn := fun _ => fun
  | [d1, d2] => { results := [.lit (.bool true)], args := [d1, d2] }
  | _ => none }
def fnExactPlaneOfRow : OpenClaim := { program := "ytmokgmmjnfnbfaa", sum := "7c0fb0a39aa2643f0068e61823e8c4a7bc7da6f6e7b93379b176d091447470ef", func := "loop.example/g01317/laws.FnExactPlaneOf", spec := "fnExactPlaneOf", apart := false }
def FnExactPlaneOfSaid : Prop := fnExactPlaneOfRow.holds Try.pinned (OpenSpec.ofChange fnExactPlaneOfSpec)

/-- ITS FALSE NEIGHBOUR: 'it returns false'. Refute it at one input. -/
def fnExactPlaneOfWrong : ChangeSpec := { name := "fnExactPlaneOf", fn := fun _ => fun
  | [d1, d2] => { results := [.lit (.bool false)], args := [d1, d2] }
  | _ => none }
def FnExactPlaneOfWrongFalsely : Prop := fnExactPlaneOfRow.holds Try.pinned (OpenSpec.ofChange fnExactPlaneOfWrong)

/-- 'laws.FnExactBitsUntil': WHATEVER THE INPUT: true; the input reads as it did. -/
def fnExactBitsUntilSpec : ChangeSpec := { name := "fnExactBitsUntil", fn := fun _ => fun
  | [d1, d2] => { results := [.lit (.bool true)], args := [d1, d2] }
  | _ => none }
def fnExactBitsUntilRow : OpenClaim := { program := "ytmokgmmjnfnbfaa", sum := "7c0fb0a39aa2643f0068e61823e8c4a7bc7da6f6e7b93379b176d091447470ef", func := "loop.example/g01317/laws.FnExactBitsUntil", spec := "fnExactBitsUntil", apart := false }
def FnExactBitsUntilSaid : Prop := fnExactBitsUntilRow.holds Try.pinned (OpenSpec.ofChange fnExactBitsUntilSpec)

/-- ITS FALSE NEIGHBOUR: 'it returns false'. Refute it at one input. -/
def fnExactBitsUntilWrong : ChangeSpec := { name := "fnExactBitsUntil", fn := fun _ => fun
  | [d1, d2] => { results := [.lit (.bool false)], args := [d1, d2] }
  | _ => none }
def FnExactBitsUntilWrongFalsely : Prop := fnExactBitsUntilRow.holds Try.pinned (OpenSpec.ofChange fnExactBitsUntilWrong)

/-- 'laws.FnExactCodeList': WHATEVER THE INPUT: true; the input reads as it did. -/
def fnExactCodeListSpec : ChangeSpec := { name := "fnExactCodeList", fn := fun _ => fun
  | [d] => { results := [.lit (.bool true)], args := [d] }
  | _ => none }
def fnExactCodeListRow : OpenClaim := { program := "ytmokgmmjnfnbfaa", sum := "7c0fb0a39aa2643f0068e61823e8c4a7bc7da6f6e7b93379b176d091447470ef", func := "loop.example/g01317/laws.FnExactCodeList", spec := "fnExactCodeList", apart := false }
def FnExactCodeListSaid : Prop := fnExactCodeListRow.holds Try.pinned (OpenSpec.ofChange fnExactCodeListSpec)

/-- ITS FALSE NEIGHBOUR: 'it returns false'. Refute it at one input. -/
def fnExactCodeListWrong : ChangeSpec := { name := "fnExactCodeList", fn := fun _ => fun
  | [d] => { results := [.lit (.bool false)], args := [d] }
  | _ => none }
def FnExactCodeListWrongFalsely : Prop := fnExactCodeListRow.holds Try.pinned (OpenSpec.ofChange fnExactCodeListWrong)

/-- 'laws.FnExactListFrom': WHATEVER THE INPUT: true; the input reads as it did. -/
def fnExactListFromSpec : ChangeSpec := { name := "fnExactListFrom", fn := fun _ => fun
  | [d] => { results := [.lit (.bool true)], args := [d] }
  | _ => none }
def fnExactListFromRow : OpenClaim := { program := "ytmokgmmjnfnbfaa", sum := "7c0fb0a39aa2643f0068e61823e8c4a7bc7da6f6e7b93379b176d091447470ef", func := "loop.example/g01317/laws.FnExactListFrom", spec := "fnExactListFrom", apart := false }
def FnExactListFromSaid : Prop := fnExactListFromRow.holds Try.pinned (OpenSpec.ofChange fnExactListFromSpec)

/-- ITS FALSE NEIGHBOUR: 'it returns false'. Refute it at one input. -/
def fnExactListFromWrong : ChangeSpec := { name := "fnExactListFrom", fn := fun _ => fun
  | [d] => { results := [.lit (.bool false)], args := [d] }
  | _ => none }
def FnExactListFromWrongFalsely : Prop := fnExactListFromRow.holds Try.pinned (OpenSpec.ofChange fnExactListFromWrong)

/-- 'laws.FnExactFromRice': WHATEVER THE INPUT: true; the input reads as it did. -/
def fnExactFromRiceSpec : ChangeSpec := { name := "fnExactFromRice", fn := fun _ => fun
  | [d1, d2, d3] => { results := [.lit (.bool true)], args := [d1, d2, d3] }
  | _ => none }
def fnExactFromRiceRow : OpenClaim := { program := "ytmokgmmjnfnbfaa", sum := "7c0fb0a39aa2643f0068e61823e8c4a7bc7da6f6e7b93379b176d091447470ef", func := "loop.example/g01317/laws.FnExactFromRice", spec := "fnExactFromRice", apart := false }
def FnExactFromRiceSaid : Prop := fnExactFromRiceRow.holds Try.pinned (OpenSpec.ofChange fnExactFromRiceSpec)

/-- ITS FALSE NEIGHBOUR: 'it returns false'. Refute it at one input. -/
def fnExactFromRiceWrong : ChangeSpec := { name := "fnExactFromRice", fn := fun _ => fun
  | [d1, d2, d3] => { results := [.lit (.bool false)], args := [d1, d2, d3] }
  | _ => none }
def FnExactFromRiceWrongFalsely : Prop := fnExactFromRiceRow.holds Try.pinned (OpenSpec.ofChange fnExactFromRiceWrong)

/-- 'laws.FnExactReadBits': WHATEVER THE INPUT: true; the input reads as it did. -/
def fnExactReadBitsSpec : ChangeSpec := { name := "fnExactReadBits", fn := fun _ => fun
  | [d] => { results := [.lit (.bool true)], args := [d] }
  | _ => none }
def fnExactReadBitsRow : OpenClaim := { program := "ytmokgmmjnfnbfaa", sum := "7c0fb0a39aa2643f0068e61823e8c4a7bc7da6f6e7b93379b176d091447470ef", func := "loop.example/g01317/laws.FnExactReadBits", spec := "fnExactReadBits", apart := false }
def FnExactReadBitsSaid : Prop := fnExactReadBitsRow.holds Try.pinned (OpenSpec.ofChange fnExactReadBitsSpec)

/-- ITS FALSE NEIGHBOUR: 'it returns false'. Refute it at one input. -/
def fnExactReadBitsWrong : ChangeSpec := { name := "fnExactReadBits", fn := fun _ => fun
  | [d] => { results := [.lit (.bool false)], args := [d] }
  | _ => none }
def FnExactReadBitsWrongFalsely : Prop := fnExactReadBitsRow.holds Try.pinned (OpenSpec.ofChange fnExactReadBitsWrong)

/-- 'laws.FnExactBitText': WHATEVER THE INPUT: true; the input reads as it did. -/
def fnExactBitTextSpec : ChangeSpec := { name := "fnExactBitText", fn := fun _ => fun
  | [d] => { results := [.lit (.bool true)], args := [d] }
  | _ => none }
def fnExactBitTextRow : OpenClaim := { program := "ytmokgmmjnfnbfaa", sum := "7c0fb0a39aa2643f0068e61823e8c4a7bc7da6f6e7b93379b176d091447470ef", func := "loop.example/g01317/laws.FnExactBitText", spec := "fnExactBitText", inPlace := ["internal/abi.NoEscape"], apart := false }
def FnExactBitTextSaid : Prop := fnExactBitTextRow.holds Try.pinned (OpenSpec.ofChange fnExactBitTextSpec)

/-- ITS FALSE NEIGHBOUR: 'it returns false'. Refute it at one input. -/
def fnExactBitTextWrong : ChangeSpec := { name := "fnExactBitText", fn := fun _ => fun
  | [d] => { results := [.lit (.bool false)], args := [d] }
  | _ => none }
def FnExactBitTextWrongFalsely : Prop := fnExactBitTextRow.holds Try.pinned (OpenSpec.ofChange fnExactBitTextWrong)

/-- 'laws.FnExactParentOf': WHATEVER THE INPUT: true; the input reads as it did. -/
def fnExactParentOfSpec : ChangeSpec := { name := "fnExactParentOf", fn := fun _ => fun
  | [d1, d2, d3] => { results := [.lit (.bool true)], args := [d1, d2, d3] }
  | _ => none }
def fnExactParentOfRow : OpenClaim := { program := "ytmokgmmjnfnbfaa", sum := "7c0fb0a39aa2643f0068e61823e8c4a7bc7da6f6e7b93379b176d091447470ef", func := "loop.example/g01317/laws.FnExactParentOf", spec := "fnExactParentOf", unfollowed := true, recurses := true, apart := false }
def FnExactParentOfSaid : Prop := fnExactParentOfRow.holds Try.pinned (OpenSpec.ofChange fnExactParentOfSpec)

/-- ITS FALSE NEIGHBOUR: 'it returns false'. Refute it at one input. -/
def fnExactParentOfWrong : ChangeSpec := { name := "fnExactParentOf", fn := fun _ => fun
  | [d1, d2, d3] => { results := [.lit (.bool false)], args := [d1, d2, d3] }
  | _ => none }
def FnExactParentOfWrongFalsely : Prop := fnExactParentOfRow.holds Try.pinned (OpenSpec.ofChange fnExactParentOfWrong)

/-- 'laws.FnExactTreeOf': WHATEVER THE INPUT: true; the input reads as it did. -/
def fnExactTreeOfSpec : ChangeSpec := { name := "fnExactTreeOf", fn := fun _ => fun
  | [d1, d2, d3] => { results := [.lit (.bool true)], args := [d1, d2, d3] }
  | _ => none }
def fnExactTreeOfRow : OpenClaim := { program := "ytmokgmmjnfnbfaa", sum := "7c0fb0a39aa2643f0068e61823e8c4a7bc7da6f6e7b93379b176d091447470ef", func := "loop.example/g01317/laws.FnExactTreeOf", spec := "fnExactTreeOf", unfollowed := true, recurses := true, apart := false }
def FnExactTreeOfSaid : Prop := fnExactTreeOfRow.holds Try.pinned (OpenSpec.ofChange fnExactTreeOfSpec)

/-- ITS FALSE NEIGHBOUR: 'it returns false'. Refute it at one input. -/
def fnExactTreeOfWrong : ChangeSpec := { name := "fnExactTreeOf", fn := fun _ => fun
  | [d1, d2, d3] => { results := [.lit (.bool false)], args := [d1, d2, d3] }
  | _ => none }
def FnExactTreeOfWrongFalsely : Prop := fnExactTreeOfRow.holds Try.pinned (OpenSpec.ofChange fnExactTreeOfWrong)

/-- 'laws.FnExactZeroTrees': WHATEVER THE INPUT: true; the input reads as it did. -/
def fnExactZeroTreesSpec : ChangeSpec := { name := "fnExactZeroTrees", fn := fun _ => fun
  | [d1, d2, d3] => { results := [.lit (.bool true)], args := [d1, d2, d3] }
  | _ => none }
def fnExactZeroTreesRow : OpenClaim := { program := "ytmokgmmjnfnbfaa", sum := "7c0fb0a39aa2643f0068e61823e8c4a7bc7da6f6e7b93379b176d091447470ef", func := "loop.example/g01317/laws.FnExactZeroTrees", spec := "fnExactZeroTrees", unfollowed := true, recurses := true, apart := false }
def FnExactZeroTreesSaid : Prop := fnExactZeroTreesRow.holds Try.pinned (OpenSpec.ofChange fnExactZeroTreesSpec)

/-- ITS FALSE NEIGHBOUR: 'it returns false'. Refute it at one input. -/
def fnExactZeroTreesWrong : ChangeSpec := { name := "fnExactZeroTrees", fn := fun _ => fun
  | [d1, d2, d3] => { results := [.lit (.bool false)], args := [d1, d2, d3] }
  | _ => none }
def FnExactZeroTreesWrongFalsely : Prop := fnExactZeroTreesRow.holds Try.pinned (OpenSpec.ofChange fnExactZeroTreesWrong)

/-- 'laws.FnExactEntropyOf': WHATEVER THE INPUT: true; the input reads as it did. -/
def fnExactEntropyOfSpec : ChangeSpec := { name := "fnExactEntropyOf", fn := fun _ => fun
  | [d] => { results := [.lit (.bool true)], args := [d] }
  | _ => none }
def fnExactEntropyOfRow : OpenClaim := { program := "ytmokgmmjnfnbfaa", sum := "7c0fb0a39aa2643f0068e61823e8c4a7bc7da6f6e7b93379b176d091447470ef", func := "loop.example/g01317/laws.FnExactEntropyOf", spec := "fnExactEntropyOf", inPlace := ["math.Float64frombits", "math.Float64bits"], apart := false }
def FnExactEntropyOfSaid : Prop := fnExactEntropyOfRow.holds Try.pinned (OpenSpec.ofChange fnExactEntropyOfSpec)

/-- ITS FALSE NEIGHBOUR: 'it returns false'. Refute it at one input. -/
def fnExactEntropyOfWrong : ChangeSpec := { name := "fnExactEntropyOf", fn := fun _ => fun
  | [d] => { results := [.lit (.bool false)], args := [d] }
  | _ => none }
def FnExactEntropyOfWrongFalsely : Prop := fnExactEntropyOfRow.holds Try.pinned (OpenSpec.ofChange fnExactEntropyOfWrong)

/- THE SECOND FORM. 'bulk': how many values and letters a reading holds, each counted each time it is reached (what is shared counts as often as it is met; a slice's spare places count too). A statement '..UptoSaid' is the law's where the arguments, and the package variables that the reading takes, are together of bulk at most 1048576: NARROWER than '..Said'. Prove '..Said' where nothing that the law and all that it calls make is longer than what came in: it says more and counts as full. Else prove '..UptoSaid'. A law counts once. -/
mutual
def uptoBulk {H : Type} : DataW H → Nat
  | .lit (.string bytes) => bytes.length + 1
  | .lit _ => 1
  | .nil => 1
  | .ptr d => uptoBulk d + 1
  | .slice elems spare => uptoBulkAll elems + uptoBulkAll spare + 1
  | .agg parts => uptoBulkAll parts + 1
  | .iface _ d => uptoBulk d + 1
  | .map entries => uptoBulkEntries entries + 1
  | .held _ => 1
def uptoBulkAll {H : Type} : List (DataW H) → Nat
  | [] => 0
  | d :: r => uptoBulk d + uptoBulkAll r
def uptoBulkEntries {H : Type} : List (Lit × DataW H) → Nat
  | [] => 0
  | x :: r => uptoBulkEntry x + uptoBulkEntries r
def uptoBulkEntry {H : Type} : Lit × DataW H → Nat
  | (.string bytes, d) => bytes.length + uptoBulk d + 1
  | (_, d) => uptoBulk d + 1
 end
def uptoSmall : (H : Type) → List (DataW H) → Bool := fun _ ds => decide (uptoBulkAll ds ≤ 1048576)
def OpenSpec.upto (s : _root_.Go.ChangeSpec) : _root_.Go.OpenSpec := { _root_.Go.OpenSpec.ofChange s with cond := some uptoSmall }

/-- 'laws.FnExactPlanesFor', WHERE WHAT IT READS IS OF BULK AT MOST 1048576: true; the input reads as it did. -/
def fnExactPlanesForUptoRow : OpenClaim := { program := "ytmokgmmjnfnbfaa", sum := "7c0fb0a39aa2643f0068e61823e8c4a7bc7da6f6e7b93379b176d091447470ef", func := "loop.example/g01317/laws.FnExactPlanesFor", spec := "fnExactPlanesFor", apart := false, narrowed := true }
def FnExactPlanesForUptoSaid : Prop := fnExactPlanesForUptoRow.holds Try.pinned (OpenSpec.upto fnExactPlanesForSpec)

/-- 'laws.FnExactPlaneOf', WHERE WHAT IT READS IS OF BULK AT MOST 1048576: true; the input reads as it did. -/
def fnExactPlaneOfUptoRow : OpenClaim := { program := "ytmokgmmjnfnbfaa", sum := "7c0fb0a39aa2643f0068e61823e8c4a7bc7da6f6e7b93379b176d091447470ef", func := "loop.example/g01317/laws.FnExactPlaneOf", spec := "fnExactPlaneOf", apart := false, narrowed := true }
def FnExactPlaneOfUptoSaid : Prop := fnExactPlaneOfUptoRow.holds Try.pinned (OpenSpec.upto fnExactPlaneOfSpec)

/-- 'laws.FnExactBitsUntil', WHERE WHAT IT READS IS OF BULK AT MOST 1048576: true; the input reads as it did. -/
def fnExactBitsUntilUptoRow : OpenClaim := { program := "ytmokgmmjnfnbfaa", sum := "7c0fb0a39aa2643f0068e61823e8c4a7bc7da6f6e7b93379b176d091447470ef", func := "loop.example/g01317/laws.FnExactBitsUntil", spec := "fnExactBitsUntil", apart := false, narrowed := true }
def FnExactBitsUntilUptoSaid : Prop := fnExactBitsUntilUptoRow.holds Try.pinned (OpenSpec.upto fnExactBitsUntilSpec)

/-- 'laws.FnExactCodeList', WHERE WHAT IT READS IS OF BULK AT MOST 1048576: true; the input reads as it did. -/
def fnExactCodeListUptoRow : OpenClaim := { program := "ytmokgmmjnfnbfaa", sum := "7c0fb0a39aa2643f0068e61823e8c4a7bc7da6f6e7b93379b176d091447470ef", func := "loop.example/g01317/laws.FnExactCodeList", spec := "fnExactCodeList", apart := false, narrowed := true }
def FnExactCodeListUptoSaid : Prop := fnExactCodeListUptoRow.holds Try.pinned (OpenSpec.upto fnExactCodeListSpec)

/-- 'laws.FnExactListFrom', WHERE WHAT IT READS IS OF BULK AT MOST 1048576: true; the input reads as it did. -/
def fnExactListFromUptoRow : OpenClaim := { program := "ytmokgmmjnfnbfaa", sum := "7c0fb0a39aa2643f0068e61823e8c4a7bc7da6f6e7b93379b176d091447470ef", func := "loop.example/g01317/laws.FnExactListFrom", spec := "fnExactListFrom", apart := false, narrowed := true }
def FnExactListFromUptoSaid : Prop := fnExactListFromUptoRow.holds Try.pinned (OpenSpec.upto fnExactListFromSpec)

/-- 'laws.FnExactFromRice', WHERE WHAT IT READS IS OF BULK AT MOST 1048576: true; the input reads as it did. -/
def fnExactFromRiceUptoRow : OpenClaim := { program := "ytmokgmmjnfnbfaa", sum := "7c0fb0a39aa2643f0068e61823e8c4a7bc7da6f6e7b93379b176d091447470ef", func := "loop.example/g01317/laws.FnExactFromRice", spec := "fnExactFromRice", apart := false, narrowed := true }
def FnExactFromRiceUptoSaid : Prop := fnExactFromRiceUptoRow.holds Try.pinned (OpenSpec.upto fnExactFromRiceSpec)

/-- 'laws.FnExactReadBits', WHERE WHAT IT READS IS OF BULK AT MOST 1048576: true; the input reads as it did. -/
def fnExactReadBitsUptoRow : OpenClaim := { program := "ytmokgmmjnfnbfaa", sum := "7c0fb0a39aa2643f0068e61823e8c4a7bc7da6f6e7b93379b176d091447470ef", func := "loop.example/g01317/laws.FnExactReadBits", spec := "fnExactReadBits", apart := false, narrowed := true }
def FnExactReadBitsUptoSaid : Prop := fnExactReadBitsUptoRow.holds Try.pinned (OpenSpec.upto fnExactReadBitsSpec)

/-- 'laws.FnExactBitText', WHERE WHAT IT READS IS OF BULK AT MOST 1048576: true; the input reads as it did. -/
def fnExactBitTextUptoRow : OpenClaim := { program := "ytmokgmmjnfnbfaa", sum := "7c0fb0a39aa2643f0068e61823e8c4a7bc7da6f6e7b93379b176d091447470ef", func := "loop.example/g01317/laws.FnExactBitText", spec := "fnExactBitText", inPlace := ["internal/abi.NoEscape"], apart := false, narrowed := true }
def FnExactBitTextUptoSaid : Prop := fnExactBitTextUptoRow.holds Try.pinned (OpenSpec.upto fnExactBitTextSpec)

/-- 'laws.FnExactParentOf', WHERE WHAT IT READS IS OF BULK AT MOST 1048576: true; the input reads as it did. -/
def fnExactParentOfUptoRow : OpenClaim := { program := "ytmokgmmjnfnbfaa", sum := "7c0fb0a39aa2643f0068e61823e8c4a7bc7da6f6e7b93379b176d091447470ef", func := "loop.example/g01317/laws.FnExactParentOf", spec := "fnExactParentOf", unfollowed := true, recurses := true, apart := false, narrowed := true }
def FnExactParentOfUptoSaid : Prop := fnExactParentOfUptoRow.holds Try.pinned (OpenSpec.upto fnExactParentOfSpec)

/-- 'laws.FnExactTreeOf', WHERE WHAT IT READS IS OF BULK AT MOST 1048576: true; the input reads as it did. -/
def fnExactTreeOfUptoRow : OpenClaim := { program := "ytmokgmmjnfnbfaa", sum := "7c0fb0a39aa2643f0068e61823e8c4a7bc7da6f6e7b93379b176d091447470ef", func := "loop.example/g01317/laws.FnExactTreeOf", spec := "fnExactTreeOf", unfollowed := true, recurses := true, apart := false, narrowed := true }
def FnExactTreeOfUptoSaid : Prop := fnExactTreeOfUptoRow.holds Try.pinned (OpenSpec.upto fnExactTreeOfSpec)

/-- 'laws.FnExactZeroTrees', WHERE WHAT IT READS IS OF BULK AT MOST 1048576: true; the input reads as it did. -/
def fnExactZeroTreesUptoRow : OpenClaim := { program := "ytmokgmmjnfnbfaa", sum := "7c0fb0a39aa2643f0068e61823e8c4a7bc7da6f6e7b93379b176d091447470ef", func := "loop.example/g01317/laws.FnExactZeroTrees", spec := "fnExactZeroTrees", unfollowed := true, recurses := true, apart := false, narrowed := true }
def FnExactZeroTreesUptoSaid : Prop := fnExactZeroTreesUptoRow.holds Try.pinned (OpenSpec.upto fnExactZeroTreesSpec)

/-- 'laws.FnExactEntropyOf', WHERE WHAT IT READS IS OF BULK AT MOST 1048576: true; the input reads as it did. -/
def fnExactEntropyOfUptoRow : OpenClaim := { program := "ytmokgmmjnfnbfaa", sum := "7c0fb0a39aa2643f0068e61823e8c4a7bc7da6f6e7b93379b176d091447470ef", func := "loop.example/g01317/laws.FnExactEntropyOf", spec := "fnExactEntropyOf", inPlace := ["math.Float64frombits", "math.Float64bits"], apart := false, narrowed := true }
def FnExactEntropyOfUptoSaid : Prop := fnExactEntropyOfUptoRow.holds Try.pinned (OpenSpec.upto fnExactEntropyOfSpec)

end Rows
end Go.Proofs.Ytmokgmmjnfnbfaa
