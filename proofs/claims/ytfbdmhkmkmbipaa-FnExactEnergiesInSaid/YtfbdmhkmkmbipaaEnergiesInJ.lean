/-
  The closed facts of the law of EnergiesIn, one by one.
-/
import Derived.Test.YtfbdmhkmkmbipaaRows
import Derived.ProofKit
import Derived.OpenShut
import Derived.WalkLawsBesides
import Derived.KernelRfl
namespace Go.Proofs.Ytfbdmhkmkmbipaa
namespace fnExactEnergiesIn
open Go.ChangeShapes Go.WideShapes Go.ChangeAt Go.RowKit
set_option linter.unusedVariables false
set_option maxRecDepth 100000
theorem and_mk {a b : Bool} (h : a = true) (k : b = true) : (a && b) = true := by rw [h, k]; rfl
theorem an1 {a b : Bool} (h : (a && b) = true) : a = true := by cases a <;> simp_all
theorem an2 {a b : Bool} (h : (a && b) = true) : b = true := by cases a <;> simp_all
theorem g1 : ((Rows.fnExactEnergiesInRow.wf (OpenSpec.ofChange Rows.fnExactEnergiesInSpec)) && (laidOutB Try.pinned.checked.prog) && (mapsRowed Try.pinned.checked.prog) && (Try.f11.params.all (Try.pinned.checked.prog.readableRec ·)) && (namedTie Try.pinned.checked.prog Rows.fnExactEnergiesInRow.named Rows.fnExactEnergiesInSpec.vars) && ((Rows.fnExactEnergiesInRow.stops == [])) && ((Try.pinned.checked.prog.stops == [])) && ((Rows.fnExactEnergiesInRow.knobs == [])) && ((Try.pinned.checked.prog.stopKnobs == []))) = true := by kernel_rfl
theorem c0 : (Rows.fnExactEnergiesInRow.wf (OpenSpec.ofChange Rows.fnExactEnergiesInSpec)) = true := (an1 (an1 (an1 (an1 (an1 (an1 (an1 (an1 g1))))))))
theorem c1 : (laidOutB Try.pinned.checked.prog) = true := (an2 (an1 (an1 (an1 (an1 (an1 (an1 (an1 g1))))))))
theorem c2 : (mapsRowed Try.pinned.checked.prog) = true := (an2 (an1 (an1 (an1 (an1 (an1 (an1 g1)))))))
theorem c3 : (Try.f11.params.all (Try.pinned.checked.prog.readableRec ·)) = true := (an2 (an1 (an1 (an1 (an1 (an1 g1))))))
theorem c4 : (namedTie Try.pinned.checked.prog Rows.fnExactEnergiesInRow.named Rows.fnExactEnergiesInSpec.vars) = true := (an2 (an1 (an1 (an1 (an1 g1)))))
theorem c5 : ((Rows.fnExactEnergiesInRow.stops == [])) = true := (an2 (an1 (an1 (an1 g1))))
theorem c6 : ((Try.pinned.checked.prog.stops == [])) = true := (an2 (an1 (an1 g1)))
theorem c7 : ((Rows.fnExactEnergiesInRow.knobs == [])) = true := (an2 (an1 g1))
theorem c8 : ((Try.pinned.checked.prog.stopKnobs == [])) = true := (an2 g1)
theorem g2 : (((Rows.fnExactEnergiesInRow.inPlace == Try.pinned.checked.prog.inPlace 11)) && ((Rows.fnExactEnergiesInRow.unfollowed == Try.pinned.checked.prog.unfollowed 11)) && ((Rows.fnExactEnergiesInRow.recurses == Try.pinned.checked.prog.recurses 11)) && ((Rows.fnExactEnergiesInRow.named == Try.pinned.checked.prog.varsNamed 11))) = true := by kernel_rfl
theorem c9 : ((Rows.fnExactEnergiesInRow.inPlace == Try.pinned.checked.prog.inPlace 11)) = true := (an1 (an1 (an1 g2)))
theorem c10 : ((Rows.fnExactEnergiesInRow.unfollowed == Try.pinned.checked.prog.unfollowed 11)) = true := (an2 (an1 (an1 g2)))
theorem c11 : ((Rows.fnExactEnergiesInRow.recurses == Try.pinned.checked.prog.recurses 11)) = true := (an2 (an1 g2))
theorem c12 : ((Rows.fnExactEnergiesInRow.named == Try.pinned.checked.prog.varsNamed 11)) = true := (an2 g2)
theorem g3 : (((Rows.fnExactEnergiesInRow.maps == (Try.f11.params.toList ++ Rows.fnExactEnergiesInSpec.plain.varTypes Try.pinned.checked.prog).any (Try.pinned.checked.prog.mapsRec ·))) && ((Rows.fnExactEnergiesInRow.ifaces == (Try.f11.params.toList ++ Rows.fnExactEnergiesInSpec.plain.varTypes Try.pinned.checked.prog).any (Try.pinned.checked.prog.ifacesRec ·))) && ((Rows.fnExactEnergiesInRow.mapsOut == Try.pinned.checked.prog.mapsAmong Try.f11.resultTypes.toList)) && ((Rows.fnExactEnergiesInRow.loops == (Try.f11.params.toList ++ Rows.fnExactEnergiesInSpec.plain.varTypes Try.pinned.checked.prog).any (Try.pinned.checked.prog.loopsFrom ·))) && ((Rows.fnExactEnergiesInRow.wideKeys == (Try.f11.params.toList ++ Rows.fnExactEnergiesInSpec.plain.varTypes Try.pinned.checked.prog ++ Try.f11.resultTypes.toList).any (Try.pinned.checked.prog.wideKeysFrom ·))) && (Rows.fnExactEnergiesInSpec.vars.all (Try.pinned.checked.prog.varReadable ·)) && (Try.f11.resultTypes.all (fun t => Try.pinned.checked.prog.readableRec t && decide (t < Try.pinned.checked.prog.types.size))) && ((Rows.fnExactEnergiesInRow.ifacesOut == Try.f11.resultTypes.toList.any (Try.pinned.checked.prog.ifacesRec ·))) && ((Rows.fnExactEnergiesInRow.loopsOut == Try.f11.resultTypes.toList.any (Try.pinned.checked.prog.loopsFrom ·))) && ((Rows.fnExactEnergiesInRow.plainKeys == Try.pinned.checked.prog.plainKeys)) && (Rows.fnExactEnergiesInRow.shortTexts.isNone) && (Try.pinned.checked.prog.stopsHeard) && (Try.pinned.checked.prog.mayEnter) && ((Rows.fnExactEnergiesInRow.lifted == Try.pinned.checked.prog.liftsFinal)) && ((Try.pinned.checked.prog.make == some Rows.fnExactEnergiesInRow.make)) && ((Rows.fnExactEnergiesInRow.kinds == (if Rows.fnExactEnergiesInRow.domain.isEmpty then [] else Try.f11.params.toList.map fun t => match Try.pinned.checked.prog.underlying t with | some (.int k) => some k | _ => none))) && ((Rows.fnExactEnergiesInRow.pinned == Rows.fnExactEnergiesInRow.pinnedBy)) && ((Rows.fnExactEnergiesInRow.veiled == (Try.f11.params.toList ++ Rows.fnExactEnergiesInSpec.plain.varTypes Try.pinned.checked.prog ++ Try.f11.resultTypes.toList).any (Try.pinned.checked.prog.veiledRec ·))) && (Rows.fnExactEnergiesInRow.veiledFits Try.pinned.checked.prog Try.f11.params.toList (Try.f11.params.toList ++ Rows.fnExactEnergiesInSpec.plain.varTypes Try.pinned.checked.prog ++ Try.f11.resultTypes.toList))) = true := by kernel_rfl
theorem c13 : ((Rows.fnExactEnergiesInRow.maps == (Try.f11.params.toList ++ Rows.fnExactEnergiesInSpec.plain.varTypes Try.pinned.checked.prog).any (Try.pinned.checked.prog.mapsRec ·))) = true := (an1 (an1 (an1 (an1 (an1 (an1 (an1 (an1 (an1 (an1 (an1 (an1 (an1 (an1 (an1 (an1 (an1 (an1 g3))))))))))))))))))
theorem c14 : ((Rows.fnExactEnergiesInRow.ifaces == (Try.f11.params.toList ++ Rows.fnExactEnergiesInSpec.plain.varTypes Try.pinned.checked.prog).any (Try.pinned.checked.prog.ifacesRec ·))) = true := (an2 (an1 (an1 (an1 (an1 (an1 (an1 (an1 (an1 (an1 (an1 (an1 (an1 (an1 (an1 (an1 (an1 (an1 g3))))))))))))))))))
theorem c15 : ((Rows.fnExactEnergiesInRow.mapsOut == Try.pinned.checked.prog.mapsAmong Try.f11.resultTypes.toList)) = true := (an2 (an1 (an1 (an1 (an1 (an1 (an1 (an1 (an1 (an1 (an1 (an1 (an1 (an1 (an1 (an1 (an1 g3)))))))))))))))))
theorem c16 : ((Rows.fnExactEnergiesInRow.loops == (Try.f11.params.toList ++ Rows.fnExactEnergiesInSpec.plain.varTypes Try.pinned.checked.prog).any (Try.pinned.checked.prog.loopsFrom ·))) = true := (an2 (an1 (an1 (an1 (an1 (an1 (an1 (an1 (an1 (an1 (an1 (an1 (an1 (an1 (an1 (an1 g3))))))))))))))))
theorem c17 : ((Rows.fnExactEnergiesInRow.wideKeys == (Try.f11.params.toList ++ Rows.fnExactEnergiesInSpec.plain.varTypes Try.pinned.checked.prog ++ Try.f11.resultTypes.toList).any (Try.pinned.checked.prog.wideKeysFrom ·))) = true := (an2 (an1 (an1 (an1 (an1 (an1 (an1 (an1 (an1 (an1 (an1 (an1 (an1 (an1 (an1 g3)))))))))))))))
theorem c18 : (Rows.fnExactEnergiesInSpec.vars.all (Try.pinned.checked.prog.varReadable ·)) = true := (an2 (an1 (an1 (an1 (an1 (an1 (an1 (an1 (an1 (an1 (an1 (an1 (an1 (an1 g3))))))))))))))
theorem c19 : (Try.f11.resultTypes.all (fun t => Try.pinned.checked.prog.readableRec t && decide (t < Try.pinned.checked.prog.types.size))) = true := (an2 (an1 (an1 (an1 (an1 (an1 (an1 (an1 (an1 (an1 (an1 (an1 (an1 g3)))))))))))))
theorem c20 : ((Rows.fnExactEnergiesInRow.ifacesOut == Try.f11.resultTypes.toList.any (Try.pinned.checked.prog.ifacesRec ·))) = true := (an2 (an1 (an1 (an1 (an1 (an1 (an1 (an1 (an1 (an1 (an1 (an1 g3))))))))))))
theorem c21 : ((Rows.fnExactEnergiesInRow.loopsOut == Try.f11.resultTypes.toList.any (Try.pinned.checked.prog.loopsFrom ·))) = true := (an2 (an1 (an1 (an1 (an1 (an1 (an1 (an1 (an1 (an1 (an1 g3)))))))))))
theorem c22 : ((Rows.fnExactEnergiesInRow.plainKeys == Try.pinned.checked.prog.plainKeys)) = true := (an2 (an1 (an1 (an1 (an1 (an1 (an1 (an1 (an1 (an1 g3))))))))))
theorem c23 : (Rows.fnExactEnergiesInRow.shortTexts.isNone) = true := (an2 (an1 (an1 (an1 (an1 (an1 (an1 (an1 (an1 g3)))))))))
theorem c24 : (Try.pinned.checked.prog.stopsHeard) = true := (an2 (an1 (an1 (an1 (an1 (an1 (an1 (an1 g3))))))))
theorem c25 : (Try.pinned.checked.prog.mayEnter) = true := (an2 (an1 (an1 (an1 (an1 (an1 (an1 g3)))))))
theorem c26 : ((Rows.fnExactEnergiesInRow.lifted == Try.pinned.checked.prog.liftsFinal)) = true := (an2 (an1 (an1 (an1 (an1 (an1 g3))))))
theorem c27 : ((Try.pinned.checked.prog.make == some Rows.fnExactEnergiesInRow.make)) = true := (an2 (an1 (an1 (an1 (an1 g3)))))
theorem c28 : ((Rows.fnExactEnergiesInRow.kinds == (if Rows.fnExactEnergiesInRow.domain.isEmpty then [] else Try.f11.params.toList.map fun t => match Try.pinned.checked.prog.underlying t with | some (.int k) => some k | _ => none))) = true := (an2 (an1 (an1 (an1 g3))))
theorem c29 : ((Rows.fnExactEnergiesInRow.pinned == Rows.fnExactEnergiesInRow.pinnedBy)) = true := (an2 (an1 (an1 g3)))
theorem c30 : ((Rows.fnExactEnergiesInRow.veiled == (Try.f11.params.toList ++ Rows.fnExactEnergiesInSpec.plain.varTypes Try.pinned.checked.prog ++ Try.f11.resultTypes.toList).any (Try.pinned.checked.prog.veiledRec ·))) = true := (an2 (an1 g3))
theorem c31 : (Rows.fnExactEnergiesInRow.veiledFits Try.pinned.checked.prog Try.f11.params.toList (Try.f11.params.toList ++ Rows.fnExactEnergiesInSpec.plain.varTypes Try.pinned.checked.prog ++ Try.f11.resultTypes.toList)) = true := (an2 g3)
theorem closed : joinedFacts Try.pinned.checked.prog 11 Try.f11 Rows.fnExactEnergiesInSpec Rows.fnExactEnergiesInRow = true := by
  unfold joinedFacts
  exact (and_mk (and_mk (and_mk (and_mk (and_mk (and_mk (and_mk (and_mk (and_mk (and_mk (and_mk (and_mk (and_mk (and_mk (and_mk (and_mk (and_mk (and_mk (and_mk (and_mk (and_mk (and_mk (and_mk (and_mk (and_mk (and_mk (and_mk (and_mk (and_mk (and_mk (and_mk c0 c1) c2) c3) c4) c5) c6) c7) c8) c9) c10) c11) c12) c13) c14) c15) c16) c17) c18) c19) c20) c21) c22) c23) c24) c25) c26) c27) c28) c29) c30) c31)
end fnExactEnergiesIn
end Go.Proofs.Ytfbdmhkmkmbipaa
