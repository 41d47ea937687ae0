/-
  THE LAW FnExactPutSheet: the facts of its row, each one by itself.
-/
import Derived.Test.YtdcckdfemelbiaaDoorCards
import Derived.Test.YtdcckdfemelbiaaDoorTie
import Derived.Test.YtdcckdfemelbiaaDoorJoined
import Derived.ProofKit
namespace Go.Proofs.YtdcckdfemelbiaaDoor.lawPutSheet
open Go
theorem k0 : Rows.fnExactPutSheetRow.wf (OpenSpec.ofChange Rows.fnExactPutSheetSpec) = true := by kernel_rfl
theorem k3 : Tryd.f4.params.all (Tryd.prog.readableRec ·) = true := by kernel_rfl
theorem k4 : namedTie Tryd.prog Rows.fnExactPutSheetRow.named Rows.fnExactPutSheetSpec.vars = true := by kernel_rfl
theorem k5 : (Rows.fnExactPutSheetRow.stops == []) = true := by kernel_rfl
theorem k7 : (Rows.fnExactPutSheetRow.knobs == []) = true := by kernel_rfl
theorem k9 : (Rows.fnExactPutSheetRow.inPlace == Tryd.prog.inPlace 4) = true := by kernel_rfl
theorem k10 : (Rows.fnExactPutSheetRow.unfollowed == Tryd.prog.unfollowed 4) = true := by kernel_rfl
theorem k11 : (Rows.fnExactPutSheetRow.recurses == Tryd.prog.recurses 4) = true := by kernel_rfl
theorem k12 : (Rows.fnExactPutSheetRow.named == Tryd.prog.varsNamed 4) = true := by kernel_rfl
theorem k13 : (Rows.fnExactPutSheetRow.maps == (Tryd.f4.params.toList ++ Rows.fnExactPutSheetSpec.plain.varTypes Tryd.prog).any (Tryd.prog.mapsRec ·)) = true := by kernel_rfl
theorem k14 : (Rows.fnExactPutSheetRow.ifaces == (Tryd.f4.params.toList ++ Rows.fnExactPutSheetSpec.plain.varTypes Tryd.prog).any (Tryd.prog.ifacesRec ·)) = true := by kernel_rfl
theorem k15 : (Rows.fnExactPutSheetRow.mapsOut == Tryd.prog.mapsAmong Tryd.f4.resultTypes.toList) = true := by kernel_rfl
theorem k16 : (Rows.fnExactPutSheetRow.loops == (Tryd.f4.params.toList ++ Rows.fnExactPutSheetSpec.plain.varTypes Tryd.prog).any (Tryd.prog.loopsFrom ·)) = true := by kernel_rfl
theorem k17 : (Rows.fnExactPutSheetRow.wideKeys == (Tryd.f4.params.toList ++ Rows.fnExactPutSheetSpec.plain.varTypes Tryd.prog ++ Tryd.f4.resultTypes.toList).any (Tryd.prog.wideKeysFrom ·)) = true := by kernel_rfl
theorem k18 : Rows.fnExactPutSheetSpec.vars.all (Tryd.prog.varReadable ·) = true := by kernel_rfl
theorem k19 : Tryd.f4.resultTypes.all (fun t => Tryd.prog.readableRec t && decide (t < Tryd.prog.types.size)) = true := by kernel_rfl
theorem k20 : (Rows.fnExactPutSheetRow.ifacesOut == Tryd.f4.resultTypes.toList.any (Tryd.prog.ifacesRec ·)) = true := by kernel_rfl
theorem k21 : (Rows.fnExactPutSheetRow.loopsOut == Tryd.f4.resultTypes.toList.any (Tryd.prog.loopsFrom ·)) = true := by kernel_rfl
theorem k23 : Rows.fnExactPutSheetRow.shortTexts.isNone = true := by kernel_rfl
theorem k28 : facts.kindsOf Tryd.prog Tryd.f4 Rows.fnExactPutSheetRow = true := by kernel_rfl
theorem k29 : (Rows.fnExactPutSheetRow.pinned == Rows.fnExactPutSheetRow.pinnedBy) = true := by kernel_rfl
theorem k30 : (Rows.fnExactPutSheetRow.veiled == (Tryd.f4.params.toList ++ Rows.fnExactPutSheetSpec.plain.varTypes Tryd.prog ++ Tryd.f4.resultTypes.toList).any (Tryd.prog.veiledRec ·)) = true := by kernel_rfl
theorem k31 : Rows.fnExactPutSheetRow.veiledFits Tryd.prog Tryd.f4.params.toList (Tryd.f4.params.toList ++ Rows.fnExactPutSheetSpec.plain.varTypes Tryd.prog ++ Tryd.f4.resultTypes.toList) = true := by kernel_rfl
theorem named : Tryd.pinned.checked.prog.funcNamed Rows.fnExactPutSheetRow.func = some 4 := by kernel_rfl
theorem inst : decide (Tryd.f4.isInstance Tryd.prog Rows.fnExactPutSheetRow.origin Rows.fnExactPutSheetRow.targs) = true := by kernel_rfl
theorem stand : (Tryd.f4.params.toList.all fun u => !Tryd.prog.wantsStandIn u) = true := by kernel_rfl
theorem wft : Rows.fnExactPutSheetRow.wfByText (OpenSpec.ofChange Rows.fnExactPutSheetSpec) = true := by kernel_rfl
theorem goes : false = Rows.fnExactPutSheetRow.goesBy Tryd.pinned.checked.prog := by kernel_rfl
end Go.Proofs.YtdcckdfemelbiaaDoor.lawPutSheet
