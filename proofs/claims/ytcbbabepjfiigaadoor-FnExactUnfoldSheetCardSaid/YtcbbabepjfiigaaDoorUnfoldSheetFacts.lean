/-
  THE LAW FnExactUnfoldSheet: the facts of its row, each one by itself.
-/
import Derived.Test.YtcbbabepjfiigaaDoorCards
import Derived.Test.YtcbbabepjfiigaaDoorTie
import Derived.Test.YtcbbabepjfiigaaDoorJoined
import Derived.ProofKit
namespace Go.Proofs.YtcbbabepjfiigaaDoor.lawUnfoldSheet
open Go
theorem k0 : Rows.fnExactUnfoldSheetRow.wf (OpenSpec.ofChange Rows.fnExactUnfoldSheetSpec) = true := by kernel_rfl
theorem k3 : Tryd.f7.params.all (Tryd.prog.readableRec ·) = true := by kernel_rfl
theorem k4 : namedTie Tryd.prog Rows.fnExactUnfoldSheetRow.named Rows.fnExactUnfoldSheetSpec.vars = true := by kernel_rfl
theorem k5 : (Rows.fnExactUnfoldSheetRow.stops == []) = true := by kernel_rfl
theorem k7 : (Rows.fnExactUnfoldSheetRow.knobs == []) = true := by kernel_rfl
theorem k9 : (Rows.fnExactUnfoldSheetRow.inPlace == Tryd.prog.inPlace 7) = true := by kernel_rfl
theorem k10 : (Rows.fnExactUnfoldSheetRow.unfollowed == Tryd.prog.unfollowed 7) = true := by kernel_rfl
theorem k11 : (Rows.fnExactUnfoldSheetRow.recurses == Tryd.prog.recurses 7) = true := by kernel_rfl
theorem k12 : (Rows.fnExactUnfoldSheetRow.named == Tryd.prog.varsNamed 7) = true := by kernel_rfl
theorem k13 : (Rows.fnExactUnfoldSheetRow.maps == (Tryd.f7.params.toList ++ Rows.fnExactUnfoldSheetSpec.plain.varTypes Tryd.prog).any (Tryd.prog.mapsRec ·)) = true := by kernel_rfl
theorem k14 : (Rows.fnExactUnfoldSheetRow.ifaces == (Tryd.f7.params.toList ++ Rows.fnExactUnfoldSheetSpec.plain.varTypes Tryd.prog).any (Tryd.prog.ifacesRec ·)) = true := by kernel_rfl
theorem k15 : (Rows.fnExactUnfoldSheetRow.mapsOut == Tryd.prog.mapsAmong Tryd.f7.resultTypes.toList) = true := by kernel_rfl
theorem k16 : (Rows.fnExactUnfoldSheetRow.loops == (Tryd.f7.params.toList ++ Rows.fnExactUnfoldSheetSpec.plain.varTypes Tryd.prog).any (Tryd.prog.loopsFrom ·)) = true := by kernel_rfl
theorem k17 : (Rows.fnExactUnfoldSheetRow.wideKeys == (Tryd.f7.params.toList ++ Rows.fnExactUnfoldSheetSpec.plain.varTypes Tryd.prog ++ Tryd.f7.resultTypes.toList).any (Tryd.prog.wideKeysFrom ·)) = true := by kernel_rfl
theorem k18 : Rows.fnExactUnfoldSheetSpec.vars.all (Tryd.prog.varReadable ·) = true := by kernel_rfl
theorem k19 : Tryd.f7.resultTypes.all (fun t => Tryd.prog.readableRec t && decide (t < Tryd.prog.types.size)) = true := by kernel_rfl
theorem k20 : (Rows.fnExactUnfoldSheetRow.ifacesOut == Tryd.f7.resultTypes.toList.any (Tryd.prog.ifacesRec ·)) = true := by kernel_rfl
theorem k21 : (Rows.fnExactUnfoldSheetRow.loopsOut == Tryd.f7.resultTypes.toList.any (Tryd.prog.loopsFrom ·)) = true := by kernel_rfl
theorem k23 : Rows.fnExactUnfoldSheetRow.shortTexts.isNone = true := by kernel_rfl
theorem k28 : facts.kindsOf Tryd.prog Tryd.f7 Rows.fnExactUnfoldSheetRow = true := by kernel_rfl
theorem k29 : (Rows.fnExactUnfoldSheetRow.pinned == Rows.fnExactUnfoldSheetRow.pinnedBy) = true := by kernel_rfl
theorem k30 : (Rows.fnExactUnfoldSheetRow.veiled == (Tryd.f7.params.toList ++ Rows.fnExactUnfoldSheetSpec.plain.varTypes Tryd.prog ++ Tryd.f7.resultTypes.toList).any (Tryd.prog.veiledRec ·)) = true := by kernel_rfl
theorem k31 : Rows.fnExactUnfoldSheetRow.veiledFits Tryd.prog Tryd.f7.params.toList (Tryd.f7.params.toList ++ Rows.fnExactUnfoldSheetSpec.plain.varTypes Tryd.prog ++ Tryd.f7.resultTypes.toList) = true := by kernel_rfl
theorem named : Tryd.pinned.checked.prog.funcNamed Rows.fnExactUnfoldSheetRow.func = some 7 := by kernel_rfl
theorem inst : decide (Tryd.f7.isInstance Tryd.prog Rows.fnExactUnfoldSheetRow.origin Rows.fnExactUnfoldSheetRow.targs) = true := by kernel_rfl
theorem stand : (Tryd.f7.params.toList.all fun u => !Tryd.prog.wantsStandIn u) = true := by kernel_rfl
theorem wft : Rows.fnExactUnfoldSheetRow.wfByText (OpenSpec.ofChange Rows.fnExactUnfoldSheetSpec) = true := by kernel_rfl
theorem goes : false = Rows.fnExactUnfoldSheetRow.goesBy Tryd.pinned.checked.prog := by kernel_rfl
end Go.Proofs.YtcbbabepjfiigaaDoor.lawUnfoldSheet
