/-
  The closed facts of the law of GrowList, one by one.
-/
import Derived.Test.YtfbdmhkmkmbipaaRows
import Derived.ProofKit
import Derived.OpenShut
import Derived.WalkLawsBesides
import Derived.KernelRfl
namespace Go.Proofs.Ytfbdmhkmkmbipaa
namespace fnExactGrowList
open Go.ChangeShapes Go.WideShapes Go.ChangeAt Go.RowKit
set_option linter.unusedVariables false
set_option maxRecDepth 100000
theorem and_mk {a b : Bool} (h : a = true) (k : b = true) : (a && b) = true := by rw [h, k]; rfl
theorem an1 {a b : Bool} (h : (a && b) = true) : a = true := by cases a <;> simp_all
theorem an2 {a b : Bool} (h : (a && b) = true) : b = true := by cases a <;> simp_all
theorem g1 : ((Rows.fnExactGrowListRow.wf (OpenSpec.ofChange Rows.fnExactGrowListSpec)) && (laidOutB Try.pinned.checked.prog) && (mapsRowed Try.pinned.checked.prog) && (Try.f5.params.all (Try.pinned.checked.prog.readableRec ·)) && (namedTie Try.pinned.checked.prog Rows.fnExactGrowListRow.named Rows.fnExactGrowListSpec.vars) && ((Rows.fnExactGrowListRow.stops == [])) && ((Try.pinned.checked.prog.stops == [])) && ((Rows.fnExactGrowListRow.knobs == [])) && ((Try.pinned.checked.prog.stopKnobs == []))) = true := by kernel_rfl
theorem c0 : (Rows.fnExactGrowListRow.wf (OpenSpec.ofChange Rows.fnExactGrowListSpec)) = true := (an1 (an1 (an1 (an1 (an1 (an1 (an1 (an1 g1))))))))
theorem c1 : (laidOutB Try.pinned.checked.prog) = true := (an2 (an1 (an1 (an1 (an1 (an1 (an1 (an1 g1))))))))
theorem c2 : (mapsRowed Try.pinned.checked.prog) = true := (an2 (an1 (an1 (an1 (an1 (an1 (an1 g1)))))))
theorem c3 : (Try.f5.params.all (Try.pinned.checked.prog.readableRec ·)) = true := (an2 (an1 (an1 (an1 (an1 (an1 g1))))))
theorem c4 : (namedTie Try.pinned.checked.prog Rows.fnExactGrowListRow.named Rows.fnExactGrowListSpec.vars) = true := (an2 (an1 (an1 (an1 (an1 g1)))))
theorem c5 : ((Rows.fnExactGrowListRow.stops == [])) = true := (an2 (an1 (an1 (an1 g1))))
theorem c6 : ((Try.pinned.checked.prog.stops == [])) = true := (an2 (an1 (an1 g1)))
theorem c7 : ((Rows.fnExactGrowListRow.knobs == [])) = true := (an2 (an1 g1))
theorem c8 : ((Try.pinned.checked.prog.stopKnobs == [])) = true := (an2 g1)
theorem g2 : (((Rows.fnExactGrowListRow.inPlace == Try.pinned.checked.prog.inPlace 5)) && ((Rows.fnExactGrowListRow.unfollowed == Try.pinned.checked.prog.unfollowed 5)) && ((Rows.fnExactGrowListRow.recurses == Try.pinned.checked.prog.recurses 5)) && ((Rows.fnExactGrowListRow.named == Try.pinned.checked.prog.varsNamed 5))) = true := by kernel_rfl
theorem c9 : ((Rows.fnExactGrowListRow.inPlace == Try.pinned.checked.prog.inPlace 5)) = true := (an1 (an1 (an1 g2)))
theorem c10 : ((Rows.fnExactGrowListRow.unfollowed == Try.pinned.checked.prog.unfollowed 5)) = true := (an2 (an1 (an1 g2)))
theorem c11 : ((Rows.fnExactGrowListRow.recurses == Try.pinned.checked.prog.recurses 5)) = true := (an2 (an1 g2))
theorem c12 : ((Rows.fnExactGrowListRow.named == Try.pinned.checked.prog.varsNamed 5)) = true := (an2 g2)
theorem g3 : (((Rows.fnExactGrowListRow.maps == (Try.f5.params.toList ++ Rows.fnExactGrowListSpec.plain.varTypes Try.pinned.checked.prog).any (Try.pinned.checked.prog.mapsRec ·))) && ((Rows.fnExactGrowListRow.ifaces == (Try.f5.params.toList ++ Rows.fnExactGrowListSpec.plain.varTypes Try.pinned.checked.prog).any (Try.pinned.checked.prog.ifacesRec ·))) && ((Rows.fnExactGrowListRow.mapsOut == Try.pinned.checked.prog.mapsAmong Try.f5.resultTypes.toList)) && ((Rows.fnExactGrowListRow.loops == (Try.f5.params.toList ++ Rows.fnExactGrowListSpec.plain.varTypes Try.pinned.checked.prog).any (Try.pinned.checked.prog.loopsFrom ·))) && ((Rows.fnExactGrowListRow.wideKeys == (Try.f5.params.toList ++ Rows.fnExactGrowListSpec.plain.varTypes Try.pinned.checked.prog ++ Try.f5.resultTypes.toList).any (Try.pinned.checked.prog.wideKeysFrom ·))) && (Rows.fnExactGrowListSpec.vars.all (Try.pinned.checked.prog.varReadable ·)) && (Try.f5.resultTypes.all (fun t => Try.pinned.checked.prog.readableRec t && decide (t < Try.pinned.checked.prog.types.size))) && ((Rows.fnExactGrowListRow.ifacesOut == Try.f5.resultTypes.toList.any (Try.pinned.checked.prog.ifacesRec ·))) && ((Rows.fnExactGrowListRow.loopsOut == Try.f5.resultTypes.toList.any (Try.pinned.checked.prog.loopsFrom ·))) && ((Rows.fnExactGrowListRow.plainKeys == Try.pinned.checked.prog.plainKeys)) && (Rows.fnExactGrowListRow.shortTexts.isNone) && (Try.pinned.checked.prog.stopsHeard) && (Try.pinned.checked.prog.mayEnter) && ((Rows.fnExactGrowListRow.lifted == Try.pinned.checked.prog.liftsFinal)) && ((Try.pinned.checked.prog.make == some Rows.fnExactGrowListRow.make)) && ((Rows.fnExactGrowListRow.kinds == (if Rows.fnExactGrowListRow.domain.isEmpty then [] else Try.f5.params.toList.map fun t => match Try.pinned.checked.prog.underlying t with | some (.int k) => some k | _ => none))) && ((Rows.fnExactGrowListRow.pinned == Rows.fnExactGrowListRow.pinnedBy)) && ((Rows.fnExactGrowListRow.veiled == (Try.f5.params.toList ++ Rows.fnExactGrowListSpec.plain.varTypes Try.pinned.checked.prog ++ Try.f5.resultTypes.toList).any (Try.pinned.checked.prog.veiledRec ·))) && (Rows.fnExactGrowListRow.veiledFits Try.pinned.checked.prog Try.f5.params.toList (Try.f5.params.toList ++ Rows.fnExactGrowListSpec.plain.varTypes Try.pinned.checked.prog ++ Try.f5.resultTypes.toList))) = true := by kernel_rfl
theorem c13 : ((Rows.fnExactGrowListRow.maps == (Try.f5.params.toList ++ Rows.fnExactGrowListSpec.plain.varTypes Try.pinned.checked.prog).any (Try.pinned.checked.prog.mapsRec ·))) = true := (an1 (an1 (an1 (an1 (an1 (an1 (an1 (an1 (an1 (an1 (an1 (an1 (an1 (an1 (an1 (an1 (an1 (an1 g3))))))))))))))))))
theorem c14 : ((Rows.fnExactGrowListRow.ifaces == (Try.f5.params.toList ++ Rows.fnExactGrowListSpec.plain.varTypes Try.pinned.checked.prog).any (Try.pinned.checked.prog.ifacesRec ·))) = true := (an2 (an1 (an1 (an1 (an1 (an1 (an1 (an1 (an1 (an1 (an1 (an1 (an1 (an1 (an1 (an1 (an1 (an1 g3))))))))))))))))))
theorem c15 : ((Rows.fnExactGrowListRow.mapsOut == Try.pinned.checked.prog.mapsAmong Try.f5.resultTypes.toList)) = true := (an2 (an1 (an1 (an1 (an1 (an1 (an1 (an1 (an1 (an1 (an1 (an1 (an1 (an1 (an1 (an1 (an1 g3)))))))))))))))))
theorem c16 : ((Rows.fnExactGrowListRow.loops == (Try.f5.params.toList ++ Rows.fnExactGrowListSpec.plain.varTypes Try.pinned.checked.prog).any (Try.pinned.checked.prog.loopsFrom ·))) = true := (an2 (an1 (an1 (an1 (an1 (an1 (an1 (an1 (an1 (an1 (an1 (an1 (an1 (an1 (an1 (an1 g3))))))))))))))))
theorem c17 : ((Rows.fnExactGrowListRow.wideKeys == (Try.f5.params.toList ++ Rows.fnExactGrowListSpec.plain.varTypes Try.pinned.checked.prog ++ Try.f5.resultTypes.toList).any (Try.pinned.checked.prog.wideKeysFrom ·))) = true := (an2 (an1 (an1 (an1 (an1 (an1 (an1 (an1 (an1 (an1 (an1 (an1 (an1 (an1 (an1 g3)))))))))))))))
theorem c18 : (Rows.fnExactGrowListSpec.vars.all (Try.pinned.checked.prog.varReadable ·)) = true := (an2 (an1 (an1 (an1 (an1 (an1 (an1 (an1 (an1 (an1 (an1 (an1 (an1 (an1 g3))))))))))))))
theorem c19 : (Try.f5.resultTypes.all (fun t => Try.pinned.checked.prog.readableRec t && decide (t < Try.pinned.checked.prog.types.size))) = true := (an2 (an1 (an1 (an1 (an1 (an1 (an1 (an1 (an1 (an1 (an1 (an1 (an1 g3)))))))))))))
theorem c20 : ((Rows.fnExactGrowListRow.ifacesOut == Try.f5.resultTypes.toList.any (Try.pinned.checked.prog.ifacesRec ·))) = true := (an2 (an1 (an1 (an1 (an1 (an1 (an1 (an1 (an1 (an1 (an1 (an1 g3))))))))))))
theorem c21 : ((Rows.fnExactGrowListRow.loopsOut == Try.f5.resultTypes.toList.any (Try.pinned.checked.prog.loopsFrom ·))) = true := (an2 (an1 (an1 (an1 (an1 (an1 (an1 (an1 (an1 (an1 (an1 g3)))))))))))
theorem c22 : ((Rows.fnExactGrowListRow.plainKeys == Try.pinned.checked.prog.plainKeys)) = true := (an2 (an1 (an1 (an1 (an1 (an1 (an1 (an1 (an1 (an1 g3))))))))))
theorem c23 : (Rows.fnExactGrowListRow.shortTexts.isNone) = true := (an2 (an1 (an1 (an1 (an1 (an1 (an1 (an1 (an1 g3)))))))))
theorem c24 : (Try.pinned.checked.prog.stopsHeard) = true := (an2 (an1 (an1 (an1 (an1 (an1 (an1 (an1 g3))))))))
theorem c25 : (Try.pinned.checked.prog.mayEnter) = true := (an2 (an1 (an1 (an1 (an1 (an1 (an1 g3)))))))
theorem c26 : ((Rows.fnExactGrowListRow.lifted == Try.pinned.checked.prog.liftsFinal)) = true := (an2 (an1 (an1 (an1 (an1 (an1 g3))))))
theorem c27 : ((Try.pinned.checked.prog.make == some Rows.fnExactGrowListRow.make)) = true := (an2 (an1 (an1 (an1 (an1 g3)))))
theorem c28 : ((Rows.fnExactGrowListRow.kinds == (if Rows.fnExactGrowListRow.domain.isEmpty then [] else Try.f5.params.toList.map fun t => match Try.pinned.checked.prog.underlying t with | some (.int k) => some k | _ => none))) = true := (an2 (an1 (an1 (an1 g3))))
theorem c29 : ((Rows.fnExactGrowListRow.pinned == Rows.fnExactGrowListRow.pinnedBy)) = true := (an2 (an1 (an1 g3)))
theorem c30 : ((Rows.fnExactGrowListRow.veiled == (Try.f5.params.toList ++ Rows.fnExactGrowListSpec.plain.varTypes Try.pinned.checked.prog ++ Try.f5.resultTypes.toList).any (Try.pinned.checked.prog.veiledRec ·))) = true := (an2 (an1 g3))
theorem c31 : (Rows.fnExactGrowListRow.veiledFits Try.pinned.checked.prog Try.f5.params.toList (Try.f5.params.toList ++ Rows.fnExactGrowListSpec.plain.varTypes Try.pinned.checked.prog ++ Try.f5.resultTypes.toList)) = true := (an2 g3)
theorem closed : joinedFacts Try.pinned.checked.prog 5 Try.f5 Rows.fnExactGrowListSpec Rows.fnExactGrowListRow = true := by
  unfold joinedFacts
  exact (and_mk (and_mk (and_mk (and_mk (and_mk (and_mk (and_mk (and_mk (and_mk (and_mk (and_mk (and_mk (and_mk (and_mk (and_mk (and_mk (and_mk (and_mk (and_mk (and_mk (and_mk (and_mk (and_mk (and_mk (and_mk (and_mk (and_mk (and_mk (and_mk (and_mk (and_mk c0 c1) c2) c3) c4) c5) c6) c7) c8) c9) c10) c11) c12) c13) c14) c15) c16) c17) c18) c19) c20) c21) c22) c23) c24) c25) c26) c27) c28) c29) c30) c31)
end fnExactGrowList
end Go.Proofs.Ytfbdmhkmkmbipaa
