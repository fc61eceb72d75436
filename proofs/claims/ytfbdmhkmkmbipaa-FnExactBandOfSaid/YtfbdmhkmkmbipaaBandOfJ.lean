/-
  The closed facts of the law of BandOf, one by one.
-/
import Derived.Test.YtfbdmhkmkmbipaaRows
import Derived.ProofKit
import Derived.OpenShut
import Derived.WalkLawsBesides
import Derived.KernelRfl
namespace Go.Proofs.Ytfbdmhkmkmbipaa
namespace fnExactBandOf
open Go.ChangeShapes Go.WideShapes Go.ChangeAt Go.RowKit
set_option linter.unusedVariables false
set_option maxRecDepth 100000
theorem and_mk {a b : Bool} (h : a = true) (k : b = true) : (a && b) = true := by rw [h, k]; rfl
theorem an1 {a b : Bool} (h : (a && b) = true) : a = true := by cases a <;> simp_all
theorem an2 {a b : Bool} (h : (a && b) = true) : b = true := by cases a <;> simp_all
theorem g1 : ((Rows.fnExactBandOfRow.wf (OpenSpec.ofChange Rows.fnExactBandOfSpec)) && (laidOutB Try.pinned.checked.prog) && (mapsRowed Try.pinned.checked.prog) && (Try.f10.params.all (Try.pinned.checked.prog.readableRec ·)) && (namedTie Try.pinned.checked.prog Rows.fnExactBandOfRow.named Rows.fnExactBandOfSpec.vars) && ((Rows.fnExactBandOfRow.stops == [])) && ((Try.pinned.checked.prog.stops == [])) && ((Rows.fnExactBandOfRow.knobs == [])) && ((Try.pinned.checked.prog.stopKnobs == []))) = true := by kernel_rfl
theorem c0 : (Rows.fnExactBandOfRow.wf (OpenSpec.ofChange Rows.fnExactBandOfSpec)) = true := (an1 (an1 (an1 (an1 (an1 (an1 (an1 (an1 g1))))))))
theorem c1 : (laidOutB Try.pinned.checked.prog) = true := (an2 (an1 (an1 (an1 (an1 (an1 (an1 (an1 g1))))))))
theorem c2 : (mapsRowed Try.pinned.checked.prog) = true := (an2 (an1 (an1 (an1 (an1 (an1 (an1 g1)))))))
theorem c3 : (Try.f10.params.all (Try.pinned.checked.prog.readableRec ·)) = true := (an2 (an1 (an1 (an1 (an1 (an1 g1))))))
theorem c4 : (namedTie Try.pinned.checked.prog Rows.fnExactBandOfRow.named Rows.fnExactBandOfSpec.vars) = true := (an2 (an1 (an1 (an1 (an1 g1)))))
theorem c5 : ((Rows.fnExactBandOfRow.stops == [])) = true := (an2 (an1 (an1 (an1 g1))))
theorem c6 : ((Try.pinned.checked.prog.stops == [])) = true := (an2 (an1 (an1 g1)))
theorem c7 : ((Rows.fnExactBandOfRow.knobs == [])) = true := (an2 (an1 g1))
theorem c8 : ((Try.pinned.checked.prog.stopKnobs == [])) = true := (an2 g1)
theorem g2 : (((Rows.fnExactBandOfRow.inPlace == Try.pinned.checked.prog.inPlace 10)) && ((Rows.fnExactBandOfRow.unfollowed == Try.pinned.checked.prog.unfollowed 10)) && ((Rows.fnExactBandOfRow.recurses == Try.pinned.checked.prog.recurses 10)) && ((Rows.fnExactBandOfRow.named == Try.pinned.checked.prog.varsNamed 10))) = true := by kernel_rfl
theorem c9 : ((Rows.fnExactBandOfRow.inPlace == Try.pinned.checked.prog.inPlace 10)) = true := (an1 (an1 (an1 g2)))
theorem c10 : ((Rows.fnExactBandOfRow.unfollowed == Try.pinned.checked.prog.unfollowed 10)) = true := (an2 (an1 (an1 g2)))
theorem c11 : ((Rows.fnExactBandOfRow.recurses == Try.pinned.checked.prog.recurses 10)) = true := (an2 (an1 g2))
theorem c12 : ((Rows.fnExactBandOfRow.named == Try.pinned.checked.prog.varsNamed 10)) = true := (an2 g2)
theorem g3 : (((Rows.fnExactBandOfRow.maps == (Try.f10.params.toList ++ Rows.fnExactBandOfSpec.plain.varTypes Try.pinned.checked.prog).any (Try.pinned.checked.prog.mapsRec ·))) && ((Rows.fnExactBandOfRow.ifaces == (Try.f10.params.toList ++ Rows.fnExactBandOfSpec.plain.varTypes Try.pinned.checked.prog).any (Try.pinned.checked.prog.ifacesRec ·))) && ((Rows.fnExactBandOfRow.mapsOut == Try.pinned.checked.prog.mapsAmong Try.f10.resultTypes.toList)) && ((Rows.fnExactBandOfRow.loops == (Try.f10.params.toList ++ Rows.fnExactBandOfSpec.plain.varTypes Try.pinned.checked.prog).any (Try.pinned.checked.prog.loopsFrom ·))) && ((Rows.fnExactBandOfRow.wideKeys == (Try.f10.params.toList ++ Rows.fnExactBandOfSpec.plain.varTypes Try.pinned.checked.prog ++ Try.f10.resultTypes.toList).any (Try.pinned.checked.prog.wideKeysFrom ·))) && (Rows.fnExactBandOfSpec.vars.all (Try.pinned.checked.prog.varReadable ·)) && (Try.f10.resultTypes.all (fun t => Try.pinned.checked.prog.readableRec t && decide (t < Try.pinned.checked.prog.types.size))) && ((Rows.fnExactBandOfRow.ifacesOut == Try.f10.resultTypes.toList.any (Try.pinned.checked.prog.ifacesRec ·))) && ((Rows.fnExactBandOfRow.loopsOut == Try.f10.resultTypes.toList.any (Try.pinned.checked.prog.loopsFrom ·))) && ((Rows.fnExactBandOfRow.plainKeys == Try.pinned.checked.prog.plainKeys)) && (Rows.fnExactBandOfRow.shortTexts.isNone) && (Try.pinned.checked.prog.stopsHeard) && (Try.pinned.checked.prog.mayEnter) && ((Rows.fnExactBandOfRow.lifted == Try.pinned.checked.prog.liftsFinal)) && ((Try.pinned.checked.prog.make == some Rows.fnExactBandOfRow.make)) && ((Rows.fnExactBandOfRow.kinds == (if Rows.fnExactBandOfRow.domain.isEmpty then [] else Try.f10.params.toList.map fun t => match Try.pinned.checked.prog.underlying t with | some (.int k) => some k | _ => none))) && ((Rows.fnExactBandOfRow.pinned == Rows.fnExactBandOfRow.pinnedBy)) && ((Rows.fnExactBandOfRow.veiled == (Try.f10.params.toList ++ Rows.fnExactBandOfSpec.plain.varTypes Try.pinned.checked.prog ++ Try.f10.resultTypes.toList).any (Try.pinned.checked.prog.veiledRec ·))) && (Rows.fnExactBandOfRow.veiledFits Try.pinned.checked.prog Try.f10.params.toList (Try.f10.params.toList ++ Rows.fnExactBandOfSpec.plain.varTypes Try.pinned.checked.prog ++ Try.f10.resultTypes.toList))) = true := by kernel_rfl
theorem c13 : ((Rows.fnExactBandOfRow.maps == (Try.f10.params.toList ++ Rows.fnExactBandOfSpec.plain.varTypes Try.pinned.checked.prog).any (Try.pinned.checked.prog.mapsRec ·))) = true := (an1 (an1 (an1 (an1 (an1 (an1 (an1 (an1 (an1 (an1 (an1 (an1 (an1 (an1 (an1 (an1 (an1 (an1 g3))))))))))))))))))
theorem c14 : ((Rows.fnExactBandOfRow.ifaces == (Try.f10.params.toList ++ Rows.fnExactBandOfSpec.plain.varTypes Try.pinned.checked.prog).any (Try.pinned.checked.prog.ifacesRec ·))) = true := (an2 (an1 (an1 (an1 (an1 (an1 (an1 (an1 (an1 (an1 (an1 (an1 (an1 (an1 (an1 (an1 (an1 (an1 g3))))))))))))))))))
theorem c15 : ((Rows.fnExactBandOfRow.mapsOut == Try.pinned.checked.prog.mapsAmong Try.f10.resultTypes.toList)) = true := (an2 (an1 (an1 (an1 (an1 (an1 (an1 (an1 (an1 (an1 (an1 (an1 (an1 (an1 (an1 (an1 (an1 g3)))))))))))))))))
theorem c16 : ((Rows.fnExactBandOfRow.loops == (Try.f10.params.toList ++ Rows.fnExactBandOfSpec.plain.varTypes Try.pinned.checked.prog).any (Try.pinned.checked.prog.loopsFrom ·))) = true := (an2 (an1 (an1 (an1 (an1 (an1 (an1 (an1 (an1 (an1 (an1 (an1 (an1 (an1 (an1 (an1 g3))))))))))))))))
theorem c17 : ((Rows.fnExactBandOfRow.wideKeys == (Try.f10.params.toList ++ Rows.fnExactBandOfSpec.plain.varTypes Try.pinned.checked.prog ++ Try.f10.resultTypes.toList).any (Try.pinned.checked.prog.wideKeysFrom ·))) = true := (an2 (an1 (an1 (an1 (an1 (an1 (an1 (an1 (an1 (an1 (an1 (an1 (an1 (an1 (an1 g3)))))))))))))))
theorem c18 : (Rows.fnExactBandOfSpec.vars.all (Try.pinned.checked.prog.varReadable ·)) = true := (an2 (an1 (an1 (an1 (an1 (an1 (an1 (an1 (an1 (an1 (an1 (an1 (an1 (an1 g3))))))))))))))
theorem c19 : (Try.f10.resultTypes.all (fun t => Try.pinned.checked.prog.readableRec t && decide (t < Try.pinned.checked.prog.types.size))) = true := (an2 (an1 (an1 (an1 (an1 (an1 (an1 (an1 (an1 (an1 (an1 (an1 (an1 g3)))))))))))))
theorem c20 : ((Rows.fnExactBandOfRow.ifacesOut == Try.f10.resultTypes.toList.any (Try.pinned.checked.prog.ifacesRec ·))) = true := (an2 (an1 (an1 (an1 (an1 (an1 (an1 (an1 (an1 (an1 (an1 (an1 g3))))))))))))
theorem c21 : ((Rows.fnExactBandOfRow.loopsOut == Try.f10.resultTypes.toList.any (Try.pinned.checked.prog.loopsFrom ·))) = true := (an2 (an1 (an1 (an1 (an1 (an1 (an1 (an1 (an1 (an1 (an1 g3)))))))))))
theorem c22 : ((Rows.fnExactBandOfRow.plainKeys == Try.pinned.checked.prog.plainKeys)) = true := (an2 (an1 (an1 (an1 (an1 (an1 (an1 (an1 (an1 (an1 g3))))))))))
theorem c23 : (Rows.fnExactBandOfRow.shortTexts.isNone) = true := (an2 (an1 (an1 (an1 (an1 (an1 (an1 (an1 (an1 g3)))))))))
theorem c24 : (Try.pinned.checked.prog.stopsHeard) = true := (an2 (an1 (an1 (an1 (an1 (an1 (an1 (an1 g3))))))))
theorem c25 : (Try.pinned.checked.prog.mayEnter) = true := (an2 (an1 (an1 (an1 (an1 (an1 (an1 g3)))))))
theorem c26 : ((Rows.fnExactBandOfRow.lifted == Try.pinned.checked.prog.liftsFinal)) = true := (an2 (an1 (an1 (an1 (an1 (an1 g3))))))
theorem c27 : ((Try.pinned.checked.prog.make == some Rows.fnExactBandOfRow.make)) = true := (an2 (an1 (an1 (an1 (an1 g3)))))
theorem c28 : ((Rows.fnExactBandOfRow.kinds == (if Rows.fnExactBandOfRow.domain.isEmpty then [] else Try.f10.params.toList.map fun t => match Try.pinned.checked.prog.underlying t with | some (.int k) => some k | _ => none))) = true := (an2 (an1 (an1 (an1 g3))))
theorem c29 : ((Rows.fnExactBandOfRow.pinned == Rows.fnExactBandOfRow.pinnedBy)) = true := (an2 (an1 (an1 g3)))
theorem c30 : ((Rows.fnExactBandOfRow.veiled == (Try.f10.params.toList ++ Rows.fnExactBandOfSpec.plain.varTypes Try.pinned.checked.prog ++ Try.f10.resultTypes.toList).any (Try.pinned.checked.prog.veiledRec ·))) = true := (an2 (an1 g3))
theorem c31 : (Rows.fnExactBandOfRow.veiledFits Try.pinned.checked.prog Try.f10.params.toList (Try.f10.params.toList ++ Rows.fnExactBandOfSpec.plain.varTypes Try.pinned.checked.prog ++ Try.f10.resultTypes.toList)) = true := (an2 g3)
theorem closed : joinedFacts Try.pinned.checked.prog 10 Try.f10 Rows.fnExactBandOfSpec Rows.fnExactBandOfRow = true := by
  unfold joinedFacts
  exact (and_mk (and_mk (and_mk (and_mk (and_mk (and_mk (and_mk (and_mk (and_mk (and_mk (and_mk (and_mk (and_mk (and_mk (and_mk (and_mk (and_mk (and_mk (and_mk (and_mk (and_mk (and_mk (and_mk (and_mk (and_mk (and_mk (and_mk (and_mk (and_mk (and_mk (and_mk c0 c1) c2) c3) c4) c5) c6) c7) c8) c9) c10) c11) c12) c13) c14) c15) c16) c17) c18) c19) c20) c21) c22) c23) c24) c25) c26) c27) c28) c29) c30) c31)
end fnExactBandOf
end Go.Proofs.Ytfbdmhkmkmbipaa
