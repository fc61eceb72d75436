/-
  The closed facts of the law of BlendPictures, one by one.
-/
import Derived.Test.YtfbdmhkmkmbipaaRows
import Derived.ProofKit
import Derived.OpenShut
import Derived.WalkLawsBesides
import Derived.KernelRfl
namespace Go.Proofs.Ytfbdmhkmkmbipaa
namespace fnExactBlendPictures
open Go.ChangeShapes Go.WideShapes Go.ChangeAt Go.RowKit
set_option linter.unusedVariables false
set_option maxRecDepth 100000
theorem and_mk {a b : Bool} (h : a = true) (k : b = true) : (a && b) = true := by rw [h, k]; rfl
theorem an1 {a b : Bool} (h : (a && b) = true) : a = true := by cases a <;> simp_all
theorem an2 {a b : Bool} (h : (a && b) = true) : b = true := by cases a <;> simp_all
theorem g1 : ((Rows.fnExactBlendPicturesRow.wf (OpenSpec.ofChange Rows.fnExactBlendPicturesSpec)) && (laidOutB Try.pinned.checked.prog) && (mapsRowed Try.pinned.checked.prog) && (Try.f8.params.all (Try.pinned.checked.prog.readableRec ·)) && (namedTie Try.pinned.checked.prog Rows.fnExactBlendPicturesRow.named Rows.fnExactBlendPicturesSpec.vars) && ((Rows.fnExactBlendPicturesRow.stops == [])) && ((Try.pinned.checked.prog.stops == [])) && ((Rows.fnExactBlendPicturesRow.knobs == [])) && ((Try.pinned.checked.prog.stopKnobs == []))) = true := by kernel_rfl
theorem c0 : (Rows.fnExactBlendPicturesRow.wf (OpenSpec.ofChange Rows.fnExactBlendPicturesSpec)) = true := (an1 (an1 (an1 (an1 (an1 (an1 (an1 (an1 g1))))))))
theorem c1 : (laidOutB Try.pinned.checked.prog) = true := (an2 (an1 (an1 (an1 (an1 (an1 (an1 (an1 g1))))))))
theorem c2 : (mapsRowed Try.pinned.checked.prog) = true := (an2 (an1 (an1 (an1 (an1 (an1 (an1 g1)))))))
theorem c3 : (Try.f8.params.all (Try.pinned.checked.prog.readableRec ·)) = true := (an2 (an1 (an1 (an1 (an1 (an1 g1))))))
theorem c4 : (namedTie Try.pinned.checked.prog Rows.fnExactBlendPicturesRow.named Rows.fnExactBlendPicturesSpec.vars) = true := (an2 (an1 (an1 (an1 (an1 g1)))))
theorem c5 : ((Rows.fnExactBlendPicturesRow.stops == [])) = true := (an2 (an1 (an1 (an1 g1))))
theorem c6 : ((Try.pinned.checked.prog.stops == [])) = true := (an2 (an1 (an1 g1)))
theorem c7 : ((Rows.fnExactBlendPicturesRow.knobs == [])) = true := (an2 (an1 g1))
theorem c8 : ((Try.pinned.checked.prog.stopKnobs == [])) = true := (an2 g1)
theorem g2 : (((Rows.fnExactBlendPicturesRow.inPlace == Try.pinned.checked.prog.inPlace 8)) && ((Rows.fnExactBlendPicturesRow.unfollowed == Try.pinned.checked.prog.unfollowed 8)) && ((Rows.fnExactBlendPicturesRow.recurses == Try.pinned.checked.prog.recurses 8)) && ((Rows.fnExactBlendPicturesRow.named == Try.pinned.checked.prog.varsNamed 8))) = true := by kernel_rfl
theorem c9 : ((Rows.fnExactBlendPicturesRow.inPlace == Try.pinned.checked.prog.inPlace 8)) = true := (an1 (an1 (an1 g2)))
theorem c10 : ((Rows.fnExactBlendPicturesRow.unfollowed == Try.pinned.checked.prog.unfollowed 8)) = true := (an2 (an1 (an1 g2)))
theorem c11 : ((Rows.fnExactBlendPicturesRow.recurses == Try.pinned.checked.prog.recurses 8)) = true := (an2 (an1 g2))
theorem c12 : ((Rows.fnExactBlendPicturesRow.named == Try.pinned.checked.prog.varsNamed 8)) = true := (an2 g2)
theorem g3 : (((Rows.fnExactBlendPicturesRow.maps == (Try.f8.params.toList ++ Rows.fnExactBlendPicturesSpec.plain.varTypes Try.pinned.checked.prog).any (Try.pinned.checked.prog.mapsRec ·))) && ((Rows.fnExactBlendPicturesRow.ifaces == (Try.f8.params.toList ++ Rows.fnExactBlendPicturesSpec.plain.varTypes Try.pinned.checked.prog).any (Try.pinned.checked.prog.ifacesRec ·))) && ((Rows.fnExactBlendPicturesRow.mapsOut == Try.pinned.checked.prog.mapsAmong Try.f8.resultTypes.toList)) && ((Rows.fnExactBlendPicturesRow.loops == (Try.f8.params.toList ++ Rows.fnExactBlendPicturesSpec.plain.varTypes Try.pinned.checked.prog).any (Try.pinned.checked.prog.loopsFrom ·))) && ((Rows.fnExactBlendPicturesRow.wideKeys == (Try.f8.params.toList ++ Rows.fnExactBlendPicturesSpec.plain.varTypes Try.pinned.checked.prog ++ Try.f8.resultTypes.toList).any (Try.pinned.checked.prog.wideKeysFrom ·))) && (Rows.fnExactBlendPicturesSpec.vars.all (Try.pinned.checked.prog.varReadable ·)) && (Try.f8.resultTypes.all (fun t => Try.pinned.checked.prog.readableRec t && decide (t < Try.pinned.checked.prog.types.size))) && ((Rows.fnExactBlendPicturesRow.ifacesOut == Try.f8.resultTypes.toList.any (Try.pinned.checked.prog.ifacesRec ·))) && ((Rows.fnExactBlendPicturesRow.loopsOut == Try.f8.resultTypes.toList.any (Try.pinned.checked.prog.loopsFrom ·))) && ((Rows.fnExactBlendPicturesRow.plainKeys == Try.pinned.checked.prog.plainKeys)) && (Rows.fnExactBlendPicturesRow.shortTexts.isNone) && (Try.pinned.checked.prog.stopsHeard) && (Try.pinned.checked.prog.mayEnter) && ((Rows.fnExactBlendPicturesRow.lifted == Try.pinned.checked.prog.liftsFinal)) && ((Try.pinned.checked.prog.make == some Rows.fnExactBlendPicturesRow.make)) && ((Rows.fnExactBlendPicturesRow.kinds == (if Rows.fnExactBlendPicturesRow.domain.isEmpty then [] else Try.f8.params.toList.map fun t => match Try.pinned.checked.prog.underlying t with | some (.int k) => some k | _ => none))) && ((Rows.fnExactBlendPicturesRow.pinned == Rows.fnExactBlendPicturesRow.pinnedBy)) && ((Rows.fnExactBlendPicturesRow.veiled == (Try.f8.params.toList ++ Rows.fnExactBlendPicturesSpec.plain.varTypes Try.pinned.checked.prog ++ Try.f8.resultTypes.toList).any (Try.pinned.checked.prog.veiledRec ·))) && (Rows.fnExactBlendPicturesRow.veiledFits Try.pinned.checked.prog Try.f8.params.toList (Try.f8.params.toList ++ Rows.fnExactBlendPicturesSpec.plain.varTypes Try.pinned.checked.prog ++ Try.f8.resultTypes.toList))) = true := by kernel_rfl
theorem c13 : ((Rows.fnExactBlendPicturesRow.maps == (Try.f8.params.toList ++ Rows.fnExactBlendPicturesSpec.plain.varTypes Try.pinned.checked.prog).any (Try.pinned.checked.prog.mapsRec ·))) = true := (an1 (an1 (an1 (an1 (an1 (an1 (an1 (an1 (an1 (an1 (an1 (an1 (an1 (an1 (an1 (an1 (an1 (an1 g3))))))))))))))))))
theorem c14 : ((Rows.fnExactBlendPicturesRow.ifaces == (Try.f8.params.toList ++ Rows.fnExactBlendPicturesSpec.plain.varTypes Try.pinned.checked.prog).any (Try.pinned.checked.prog.ifacesRec ·))) = true := (an2 (an1 (an1 (an1 (an1 (an1 (an1 (an1 (an1 (an1 (an1 (an1 (an1 (an1 (an1 (an1 (an1 (an1 g3))))))))))))))))))
theorem c15 : ((Rows.fnExactBlendPicturesRow.mapsOut == Try.pinned.checked.prog.mapsAmong Try.f8.resultTypes.toList)) = true := (an2 (an1 (an1 (an1 (an1 (an1 (an1 (an1 (an1 (an1 (an1 (an1 (an1 (an1 (an1 (an1 (an1 g3)))))))))))))))))
theorem c16 : ((Rows.fnExactBlendPicturesRow.loops == (Try.f8.params.toList ++ Rows.fnExactBlendPicturesSpec.plain.varTypes Try.pinned.checked.prog).any (Try.pinned.checked.prog.loopsFrom ·))) = true := (an2 (an1 (an1 (an1 (an1 (an1 (an1 (an1 (an1 (an1 (an1 (an1 (an1 (an1 (an1 (an1 g3))))))))))))))))
theorem c17 : ((Rows.fnExactBlendPicturesRow.wideKeys == (Try.f8.params.toList ++ Rows.fnExactBlendPicturesSpec.plain.varTypes Try.pinned.checked.prog ++ Try.f8.resultTypes.toList).any (Try.pinned.checked.prog.wideKeysFrom ·))) = true := (an2 (an1 (an1 (an1 (an1 (an1 (an1 (an1 (an1 (an1 (an1 (an1 (an1 (an1 (an1 g3)))))))))))))))
theorem c18 : (Rows.fnExactBlendPicturesSpec.vars.all (Try.pinned.checked.prog.varReadable ·)) = true := (an2 (an1 (an1 (an1 (an1 (an1 (an1 (an1 (an1 (an1 (an1 (an1 (an1 (an1 g3))))))))))))))
theorem c19 : (Try.f8.resultTypes.all (fun t => Try.pinned.checked.prog.readableRec t && decide (t < Try.pinned.checked.prog.types.size))) = true := (an2 (an1 (an1 (an1 (an1 (an1 (an1 (an1 (an1 (an1 (an1 (an1 (an1 g3)))))))))))))
theorem c20 : ((Rows.fnExactBlendPicturesRow.ifacesOut == Try.f8.resultTypes.toList.any (Try.pinned.checked.prog.ifacesRec ·))) = true := (an2 (an1 (an1 (an1 (an1 (an1 (an1 (an1 (an1 (an1 (an1 (an1 g3))))))))))))
theorem c21 : ((Rows.fnExactBlendPicturesRow.loopsOut == Try.f8.resultTypes.toList.any (Try.pinned.checked.prog.loopsFrom ·))) = true := (an2 (an1 (an1 (an1 (an1 (an1 (an1 (an1 (an1 (an1 (an1 g3)))))))))))
theorem c22 : ((Rows.fnExactBlendPicturesRow.plainKeys == Try.pinned.checked.prog.plainKeys)) = true := (an2 (an1 (an1 (an1 (an1 (an1 (an1 (an1 (an1 (an1 g3))))))))))
theorem c23 : (Rows.fnExactBlendPicturesRow.shortTexts.isNone) = true := (an2 (an1 (an1 (an1 (an1 (an1 (an1 (an1 (an1 g3)))))))))
theorem c24 : (Try.pinned.checked.prog.stopsHeard) = true := (an2 (an1 (an1 (an1 (an1 (an1 (an1 (an1 g3))))))))
theorem c25 : (Try.pinned.checked.prog.mayEnter) = true := (an2 (an1 (an1 (an1 (an1 (an1 (an1 g3)))))))
theorem c26 : ((Rows.fnExactBlendPicturesRow.lifted == Try.pinned.checked.prog.liftsFinal)) = true := (an2 (an1 (an1 (an1 (an1 (an1 g3))))))
theorem c27 : ((Try.pinned.checked.prog.make == some Rows.fnExactBlendPicturesRow.make)) = true := (an2 (an1 (an1 (an1 (an1 g3)))))
theorem c28 : ((Rows.fnExactBlendPicturesRow.kinds == (if Rows.fnExactBlendPicturesRow.domain.isEmpty then [] else Try.f8.params.toList.map fun t => match Try.pinned.checked.prog.underlying t with | some (.int k) => some k | _ => none))) = true := (an2 (an1 (an1 (an1 g3))))
theorem c29 : ((Rows.fnExactBlendPicturesRow.pinned == Rows.fnExactBlendPicturesRow.pinnedBy)) = true := (an2 (an1 (an1 g3)))
theorem c30 : ((Rows.fnExactBlendPicturesRow.veiled == (Try.f8.params.toList ++ Rows.fnExactBlendPicturesSpec.plain.varTypes Try.pinned.checked.prog ++ Try.f8.resultTypes.toList).any (Try.pinned.checked.prog.veiledRec ·))) = true := (an2 (an1 g3))
theorem c31 : (Rows.fnExactBlendPicturesRow.veiledFits Try.pinned.checked.prog Try.f8.params.toList (Try.f8.params.toList ++ Rows.fnExactBlendPicturesSpec.plain.varTypes Try.pinned.checked.prog ++ Try.f8.resultTypes.toList)) = true := (an2 g3)
theorem closed : joinedFacts Try.pinned.checked.prog 8 Try.f8 Rows.fnExactBlendPicturesSpec Rows.fnExactBlendPicturesRow = true := by
  unfold joinedFacts
  exact (and_mk (and_mk (and_mk (and_mk (and_mk (and_mk (and_mk (and_mk (and_mk (and_mk (and_mk (and_mk (and_mk (and_mk (and_mk (and_mk (and_mk (and_mk (and_mk (and_mk (and_mk (and_mk (and_mk (and_mk (and_mk (and_mk (and_mk (and_mk (and_mk (and_mk (and_mk c0 c1) c2) c3) c4) c5) c6) c7) c8) c9) c10) c11) c12) c13) c14) c15) c16) c17) c18) c19) c20) c21) c22) c23) c24) c25) c26) c27) c28) c29) c30) c31)
end fnExactBlendPictures
end Go.Proofs.Ytfbdmhkmkmbipaa
