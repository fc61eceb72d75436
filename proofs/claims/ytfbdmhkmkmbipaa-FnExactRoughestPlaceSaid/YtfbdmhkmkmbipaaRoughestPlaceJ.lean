/-
  The closed facts of the law of RoughestPlace, one by one.
-/
import Derived.Test.YtfbdmhkmkmbipaaRows
import Derived.ProofKit
import Derived.OpenShut
import Derived.WalkLawsBesides
import Derived.KernelRfl
namespace Go.Proofs.Ytfbdmhkmkmbipaa
namespace fnExactRoughestPlace
open Go.ChangeShapes Go.WideShapes Go.ChangeAt Go.RowKit
set_option linter.unusedVariables false
set_option maxRecDepth 100000
theorem and_mk {a b : Bool} (h : a = true) (k : b = true) : (a && b) = true := by rw [h, k]; rfl
theorem an1 {a b : Bool} (h : (a && b) = true) : a = true := by cases a <;> simp_all
theorem an2 {a b : Bool} (h : (a && b) = true) : b = true := by cases a <;> simp_all
theorem g1 : ((Rows.fnExactRoughestPlaceRow.wf (OpenSpec.ofChange Rows.fnExactRoughestPlaceSpec)) && (laidOutB Try.pinned.checked.prog) && (mapsRowed Try.pinned.checked.prog) && (Try.f14.params.all (Try.pinned.checked.prog.readableRec ·)) && (namedTie Try.pinned.checked.prog Rows.fnExactRoughestPlaceRow.named Rows.fnExactRoughestPlaceSpec.vars) && ((Rows.fnExactRoughestPlaceRow.stops == [])) && ((Try.pinned.checked.prog.stops == [])) && ((Rows.fnExactRoughestPlaceRow.knobs == [])) && ((Try.pinned.checked.prog.stopKnobs == []))) = true := by kernel_rfl
theorem c0 : (Rows.fnExactRoughestPlaceRow.wf (OpenSpec.ofChange Rows.fnExactRoughestPlaceSpec)) = true := (an1 (an1 (an1 (an1 (an1 (an1 (an1 (an1 g1))))))))
theorem c1 : (laidOutB Try.pinned.checked.prog) = true := (an2 (an1 (an1 (an1 (an1 (an1 (an1 (an1 g1))))))))
theorem c2 : (mapsRowed Try.pinned.checked.prog) = true := (an2 (an1 (an1 (an1 (an1 (an1 (an1 g1)))))))
theorem c3 : (Try.f14.params.all (Try.pinned.checked.prog.readableRec ·)) = true := (an2 (an1 (an1 (an1 (an1 (an1 g1))))))
theorem c4 : (namedTie Try.pinned.checked.prog Rows.fnExactRoughestPlaceRow.named Rows.fnExactRoughestPlaceSpec.vars) = true := (an2 (an1 (an1 (an1 (an1 g1)))))
theorem c5 : ((Rows.fnExactRoughestPlaceRow.stops == [])) = true := (an2 (an1 (an1 (an1 g1))))
theorem c6 : ((Try.pinned.checked.prog.stops == [])) = true := (an2 (an1 (an1 g1)))
theorem c7 : ((Rows.fnExactRoughestPlaceRow.knobs == [])) = true := (an2 (an1 g1))
theorem c8 : ((Try.pinned.checked.prog.stopKnobs == [])) = true := (an2 g1)
theorem g2 : (((Rows.fnExactRoughestPlaceRow.inPlace == Try.pinned.checked.prog.inPlace 14)) && ((Rows.fnExactRoughestPlaceRow.unfollowed == Try.pinned.checked.prog.unfollowed 14)) && ((Rows.fnExactRoughestPlaceRow.recurses == Try.pinned.checked.prog.recurses 14)) && ((Rows.fnExactRoughestPlaceRow.named == Try.pinned.checked.prog.varsNamed 14))) = true := by kernel_rfl
theorem c9 : ((Rows.fnExactRoughestPlaceRow.inPlace == Try.pinned.checked.prog.inPlace 14)) = true := (an1 (an1 (an1 g2)))
theorem c10 : ((Rows.fnExactRoughestPlaceRow.unfollowed == Try.pinned.checked.prog.unfollowed 14)) = true := (an2 (an1 (an1 g2)))
theorem c11 : ((Rows.fnExactRoughestPlaceRow.recurses == Try.pinned.checked.prog.recurses 14)) = true := (an2 (an1 g2))
theorem c12 : ((Rows.fnExactRoughestPlaceRow.named == Try.pinned.checked.prog.varsNamed 14)) = true := (an2 g2)
theorem g3 : (((Rows.fnExactRoughestPlaceRow.maps == (Try.f14.params.toList ++ Rows.fnExactRoughestPlaceSpec.plain.varTypes Try.pinned.checked.prog).any (Try.pinned.checked.prog.mapsRec ·))) && ((Rows.fnExactRoughestPlaceRow.ifaces == (Try.f14.params.toList ++ Rows.fnExactRoughestPlaceSpec.plain.varTypes Try.pinned.checked.prog).any (Try.pinned.checked.prog.ifacesRec ·))) && ((Rows.fnExactRoughestPlaceRow.mapsOut == Try.pinned.checked.prog.mapsAmong Try.f14.resultTypes.toList)) && ((Rows.fnExactRoughestPlaceRow.loops == (Try.f14.params.toList ++ Rows.fnExactRoughestPlaceSpec.plain.varTypes Try.pinned.checked.prog).any (Try.pinned.checked.prog.loopsFrom ·))) && ((Rows.fnExactRoughestPlaceRow.wideKeys == (Try.f14.params.toList ++ Rows.fnExactRoughestPlaceSpec.plain.varTypes Try.pinned.checked.prog ++ Try.f14.resultTypes.toList).any (Try.pinned.checked.prog.wideKeysFrom ·))) && (Rows.fnExactRoughestPlaceSpec.vars.all (Try.pinned.checked.prog.varReadable ·)) && (Try.f14.resultTypes.all (fun t => Try.pinned.checked.prog.readableRec t && decide (t < Try.pinned.checked.prog.types.size))) && ((Rows.fnExactRoughestPlaceRow.ifacesOut == Try.f14.resultTypes.toList.any (Try.pinned.checked.prog.ifacesRec ·))) && ((Rows.fnExactRoughestPlaceRow.loopsOut == Try.f14.resultTypes.toList.any (Try.pinned.checked.prog.loopsFrom ·))) && ((Rows.fnExactRoughestPlaceRow.plainKeys == Try.pinned.checked.prog.plainKeys)) && (Rows.fnExactRoughestPlaceRow.shortTexts.isNone) && (Try.pinned.checked.prog.stopsHeard) && (Try.pinned.checked.prog.mayEnter) && ((Rows.fnExactRoughestPlaceRow.lifted == Try.pinned.checked.prog.liftsFinal)) && ((Try.pinned.checked.prog.make == some Rows.fnExactRoughestPlaceRow.make)) && ((Rows.fnExactRoughestPlaceRow.kinds == (if Rows.fnExactRoughestPlaceRow.domain.isEmpty then [] else Try.f14.params.toList.map fun t => match Try.pinned.checked.prog.underlying t with | some (.int k) => some k | _ => none))) && ((Rows.fnExactRoughestPlaceRow.pinned == Rows.fnExactRoughestPlaceRow.pinnedBy)) && ((Rows.fnExactRoughestPlaceRow.veiled == (Try.f14.params.toList ++ Rows.fnExactRoughestPlaceSpec.plain.varTypes Try.pinned.checked.prog ++ Try.f14.resultTypes.toList).any (Try.pinned.checked.prog.veiledRec ·))) && (Rows.fnExactRoughestPlaceRow.veiledFits Try.pinned.checked.prog Try.f14.params.toList (Try.f14.params.toList ++ Rows.fnExactRoughestPlaceSpec.plain.varTypes Try.pinned.checked.prog ++ Try.f14.resultTypes.toList))) = true := by kernel_rfl
theorem c13 : ((Rows.fnExactRoughestPlaceRow.maps == (Try.f14.params.toList ++ Rows.fnExactRoughestPlaceSpec.plain.varTypes Try.pinned.checked.prog).any (Try.pinned.checked.prog.mapsRec ·))) = true := (an1 (an1 (an1 (an1 (an1 (an1 (an1 (an1 (an1 (an1 (an1 (an1 (an1 (an1 (an1 (an1 (an1 (an1 g3))))))))))))))))))
theorem c14 : ((Rows.fnExactRoughestPlaceRow.ifaces == (Try.f14.params.toList ++ Rows.fnExactRoughestPlaceSpec.plain.varTypes Try.pinned.checked.prog).any (Try.pinned.checked.prog.ifacesRec ·))) = true := (an2 (an1 (an1 (an1 (an1 (an1 (an1 (an1 (an1 (an1 (an1 (an1 (an1 (an1 (an1 (an1 (an1 (an1 g3))))))))))))))))))
theorem c15 : ((Rows.fnExactRoughestPlaceRow.mapsOut == Try.pinned.checked.prog.mapsAmong Try.f14.resultTypes.toList)) = true := (an2 (an1 (an1 (an1 (an1 (an1 (an1 (an1 (an1 (an1 (an1 (an1 (an1 (an1 (an1 (an1 (an1 g3)))))))))))))))))
theorem c16 : ((Rows.fnExactRoughestPlaceRow.loops == (Try.f14.params.toList ++ Rows.fnExactRoughestPlaceSpec.plain.varTypes Try.pinned.checked.prog).any (Try.pinned.checked.prog.loopsFrom ·))) = true := (an2 (an1 (an1 (an1 (an1 (an1 (an1 (an1 (an1 (an1 (an1 (an1 (an1 (an1 (an1 (an1 g3))))))))))))))))
theorem c17 : ((Rows.fnExactRoughestPlaceRow.wideKeys == (Try.f14.params.toList ++ Rows.fnExactRoughestPlaceSpec.plain.varTypes Try.pinned.checked.prog ++ Try.f14.resultTypes.toList).any (Try.pinned.checked.prog.wideKeysFrom ·))) = true := (an2 (an1 (an1 (an1 (an1 (an1 (an1 (an1 (an1 (an1 (an1 (an1 (an1 (an1 (an1 g3)))))))))))))))
theorem c18 : (Rows.fnExactRoughestPlaceSpec.vars.all (Try.pinned.checked.prog.varReadable ·)) = true := (an2 (an1 (an1 (an1 (an1 (an1 (an1 (an1 (an1 (an1 (an1 (an1 (an1 (an1 g3))))))))))))))
theorem c19 : (Try.f14.resultTypes.all (fun t => Try.pinned.checked.prog.readableRec t && decide (t < Try.pinned.checked.prog.types.size))) = true := (an2 (an1 (an1 (an1 (an1 (an1 (an1 (an1 (an1 (an1 (an1 (an1 (an1 g3)))))))))))))
theorem c20 : ((Rows.fnExactRoughestPlaceRow.ifacesOut == Try.f14.resultTypes.toList.any (Try.pinned.checked.prog.ifacesRec ·))) = true := (an2 (an1 (an1 (an1 (an1 (an1 (an1 (an1 (an1 (an1 (an1 (an1 g3))))))))))))
theorem c21 : ((Rows.fnExactRoughestPlaceRow.loopsOut == Try.f14.resultTypes.toList.any (Try.pinned.checked.prog.loopsFrom ·))) = true := (an2 (an1 (an1 (an1 (an1 (an1 (an1 (an1 (an1 (an1 (an1 g3)))))))))))
theorem c22 : ((Rows.fnExactRoughestPlaceRow.plainKeys == Try.pinned.checked.prog.plainKeys)) = true := (an2 (an1 (an1 (an1 (an1 (an1 (an1 (an1 (an1 (an1 g3))))))))))
theorem c23 : (Rows.fnExactRoughestPlaceRow.shortTexts.isNone) = true := (an2 (an1 (an1 (an1 (an1 (an1 (an1 (an1 (an1 g3)))))))))
theorem c24 : (Try.pinned.checked.prog.stopsHeard) = true := (an2 (an1 (an1 (an1 (an1 (an1 (an1 (an1 g3))))))))
theorem c25 : (Try.pinned.checked.prog.mayEnter) = true := (an2 (an1 (an1 (an1 (an1 (an1 (an1 g3)))))))
theorem c26 : ((Rows.fnExactRoughestPlaceRow.lifted == Try.pinned.checked.prog.liftsFinal)) = true := (an2 (an1 (an1 (an1 (an1 (an1 g3))))))
theorem c27 : ((Try.pinned.checked.prog.make == some Rows.fnExactRoughestPlaceRow.make)) = true := (an2 (an1 (an1 (an1 (an1 g3)))))
theorem c28 : ((Rows.fnExactRoughestPlaceRow.kinds == (if Rows.fnExactRoughestPlaceRow.domain.isEmpty then [] else Try.f14.params.toList.map fun t => match Try.pinned.checked.prog.underlying t with | some (.int k) => some k | _ => none))) = true := (an2 (an1 (an1 (an1 g3))))
theorem c29 : ((Rows.fnExactRoughestPlaceRow.pinned == Rows.fnExactRoughestPlaceRow.pinnedBy)) = true := (an2 (an1 (an1 g3)))
theorem c30 : ((Rows.fnExactRoughestPlaceRow.veiled == (Try.f14.params.toList ++ Rows.fnExactRoughestPlaceSpec.plain.varTypes Try.pinned.checked.prog ++ Try.f14.resultTypes.toList).any (Try.pinned.checked.prog.veiledRec ·))) = true := (an2 (an1 g3))
theorem c31 : (Rows.fnExactRoughestPlaceRow.veiledFits Try.pinned.checked.prog Try.f14.params.toList (Try.f14.params.toList ++ Rows.fnExactRoughestPlaceSpec.plain.varTypes Try.pinned.checked.prog ++ Try.f14.resultTypes.toList)) = true := (an2 g3)
theorem closed : joinedFacts Try.pinned.checked.prog 14 Try.f14 Rows.fnExactRoughestPlaceSpec Rows.fnExactRoughestPlaceRow = true := by
  unfold joinedFacts
  exact (and_mk (and_mk (and_mk (and_mk (and_mk (and_mk (and_mk (and_mk (and_mk (and_mk (and_mk (and_mk (and_mk (and_mk (and_mk (and_mk (and_mk (and_mk (and_mk (and_mk (and_mk (and_mk (and_mk (and_mk (and_mk (and_mk (and_mk (and_mk (and_mk (and_mk (and_mk c0 c1) c2) c3) c4) c5) c6) c7) c8) c9) c10) c11) c12) c13) c14) c15) c16) c17) c18) c19) c20) c21) c22) c23) c24) c25) c26) c27) c28) c29) c30) c31)
end fnExactRoughestPlace
end Go.Proofs.Ytfbdmhkmkmbipaa
