/-
  THE LAW FnExactTakeSheet: the facts of its row, each one by itself.
-/
import Derived.Test.YtcbbabepjfiigaaDoorCards
import Derived.Test.YtcbbabepjfiigaaDoorTie
import Derived.Test.YtcbbabepjfiigaaDoorJoined
import Derived.ProofKit
namespace Go.Proofs.YtcbbabepjfiigaaDoor.lawTakeSheet
open Go
theorem k0 : Rows.fnExactTakeSheetRow.wf (OpenSpec.ofChange Rows.fnExactTakeSheetSpec) = true := by kernel_rfl
theorem k3 : Tryd.f13.params.all (Tryd.prog.readableRec ·) = true := by kernel_rfl
theorem k4 : namedTie Tryd.prog Rows.fnExactTakeSheetRow.named Rows.fnExactTakeSheetSpec.vars = true := by kernel_rfl
theorem k5 : (Rows.fnExactTakeSheetRow.stops == []) = true := by kernel_rfl
theorem k7 : (Rows.fnExactTakeSheetRow.knobs == []) = true := by kernel_rfl
theorem k9 : (Rows.fnExactTakeSheetRow.inPlace == Tryd.prog.inPlace 13) = true := by kernel_rfl
theorem k10 : (Rows.fnExactTakeSheetRow.unfollowed == Tryd.prog.unfollowed 13) = true := by kernel_rfl
theorem k11 : (Rows.fnExactTakeSheetRow.recurses == Tryd.prog.recurses 13) = true := by kernel_rfl
theorem k12 : (Rows.fnExactTakeSheetRow.named == Tryd.prog.varsNamed 13) = true := by kernel_rfl
theorem k13 : (Rows.fnExactTakeSheetRow.maps == (Tryd.f13.params.toList ++ Rows.fnExactTakeSheetSpec.plain.varTypes Tryd.prog).any (Tryd.prog.mapsRec ·)) = true := by kernel_rfl
theorem k14 : (Rows.fnExactTakeSheetRow.ifaces == (Tryd.f13.params.toList ++ Rows.fnExactTakeSheetSpec.plain.varTypes Tryd.prog).any (Tryd.prog.ifacesRec ·)) = true := by kernel_rfl
theorem k15 : (Rows.fnExactTakeSheetRow.mapsOut == Tryd.prog.mapsAmong Tryd.f13.resultTypes.toList) = true := by kernel_rfl
theorem k16 : (Rows.fnExactTakeSheetRow.loops == (Tryd.f13.params.toList ++ Rows.fnExactTakeSheetSpec.plain.varTypes Tryd.prog).any (Tryd.prog.loopsFrom ·)) = true := by kernel_rfl
theorem k17 : (Rows.fnExactTakeSheetRow.wideKeys == (Tryd.f13.params.toList ++ Rows.fnExactTakeSheetSpec.plain.varTypes Tryd.prog ++ Tryd.f13.resultTypes.toList).any (Tryd.prog.wideKeysFrom ·)) = true := by kernel_rfl
theorem k18 : Rows.fnExactTakeSheetSpec.vars.all (Tryd.prog.varReadable ·) = true := by kernel_rfl
theorem k19 : Tryd.f13.resultTypes.all (fun t => Tryd.prog.readableRec t && decide (t < Tryd.prog.types.size)) = true := by kernel_rfl
theorem k20 : (Rows.fnExactTakeSheetRow.ifacesOut == Tryd.f13.resultTypes.toList.any (Tryd.prog.ifacesRec ·)) = true := by kernel_rfl
theorem k21 : (Rows.fnExactTakeSheetRow.loopsOut == Tryd.f13.resultTypes.toList.any (Tryd.prog.loopsFrom ·)) = true := by kernel_rfl
theorem k23 : Rows.fnExactTakeSheetRow.shortTexts.isNone = true := by kernel_rfl
theorem k28 : facts.kindsOf Tryd.prog Tryd.f13 Rows.fnExactTakeSheetRow = true := by kernel_rfl
theorem k29 : (Rows.fnExactTakeSheetRow.pinned == Rows.fnExactTakeSheetRow.pinnedBy) = true := by kernel_rfl
theorem k30 : (Rows.fnExactTakeSheetRow.veiled == (Tryd.f13.params.toList ++ Rows.fnExactTakeSheetSpec.plain.varTypes Tryd.prog ++ Tryd.f13.resultTypes.toList).any (Tryd.prog.veiledRec ·)) = true := by kernel_rfl
theorem k31 : Rows.fnExactTakeSheetRow.veiledFits Tryd.prog Tryd.f13.params.toList (Tryd.f13.params.toList ++ Rows.fnExactTakeSheetSpec.plain.varTypes Tryd.prog ++ Tryd.f13.resultTypes.toList) = true := by kernel_rfl
theorem named : Tryd.pinned.checked.prog.funcNamed Rows.fnExactTakeSheetRow.func = some 13 := by kernel_rfl
theorem inst : decide (Tryd.f13.isInstance Tryd.prog Rows.fnExactTakeSheetRow.origin Rows.fnExactTakeSheetRow.targs) = true := by kernel_rfl
theorem stand : (Tryd.f13.params.toList.all fun u => !Tryd.prog.wantsStandIn u) = true := by kernel_rfl
theorem wft : Rows.fnExactTakeSheetRow.wfByText (OpenSpec.ofChange Rows.fnExactTakeSheetSpec) = true := by kernel_rfl
theorem goes : false = Rows.fnExactTakeSheetRow.goesBy Tryd.pinned.checked.prog := by kernel_rfl
end Go.Proofs.YtcbbabepjfiigaaDoor.lawTakeSheet
