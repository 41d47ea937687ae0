/-
  THE LAW FnExactFindSheet: the facts of its row, each one by itself.
-/
import Derived.Test.YtcbbabepjfiigaaDoorCards
import Derived.Test.YtcbbabepjfiigaaDoorTie
import Derived.Test.YtcbbabepjfiigaaDoorJoined
import Derived.ProofKit
namespace Go.Proofs.YtcbbabepjfiigaaDoor.lawFindSheet
open Go
theorem k0 : Rows.fnExactFindSheetRow.wf (OpenSpec.ofChange Rows.fnExactFindSheetSpec) = true := by kernel_rfl
theorem k3 : Tryd.f12.params.all (Tryd.prog.readableRec ·) = true := by kernel_rfl
theorem k4 : namedTie Tryd.prog Rows.fnExactFindSheetRow.named Rows.fnExactFindSheetSpec.vars = true := by kernel_rfl
theorem k5 : (Rows.fnExactFindSheetRow.stops == []) = true := by kernel_rfl
theorem k7 : (Rows.fnExactFindSheetRow.knobs == []) = true := by kernel_rfl
theorem k9 : (Rows.fnExactFindSheetRow.inPlace == Tryd.prog.inPlace 12) = true := by kernel_rfl
theorem k10 : (Rows.fnExactFindSheetRow.unfollowed == Tryd.prog.unfollowed 12) = true := by kernel_rfl
theorem k11 : (Rows.fnExactFindSheetRow.recurses == Tryd.prog.recurses 12) = true := by kernel_rfl
theorem k12 : (Rows.fnExactFindSheetRow.named == Tryd.prog.varsNamed 12) = true := by kernel_rfl
theorem k13 : (Rows.fnExactFindSheetRow.maps == (Tryd.f12.params.toList ++ Rows.fnExactFindSheetSpec.plain.varTypes Tryd.prog).any (Tryd.prog.mapsRec ·)) = true := by kernel_rfl
theorem k14 : (Rows.fnExactFindSheetRow.ifaces == (Tryd.f12.params.toList ++ Rows.fnExactFindSheetSpec.plain.varTypes Tryd.prog).any (Tryd.prog.ifacesRec ·)) = true := by kernel_rfl
theorem k15 : (Rows.fnExactFindSheetRow.mapsOut == Tryd.prog.mapsAmong Tryd.f12.resultTypes.toList) = true := by kernel_rfl
theorem k16 : (Rows.fnExactFindSheetRow.loops == (Tryd.f12.params.toList ++ Rows.fnExactFindSheetSpec.plain.varTypes Tryd.prog).any (Tryd.prog.loopsFrom ·)) = true := by kernel_rfl
theorem k17 : (Rows.fnExactFindSheetRow.wideKeys == (Tryd.f12.params.toList ++ Rows.fnExactFindSheetSpec.plain.varTypes Tryd.prog ++ Tryd.f12.resultTypes.toList).any (Tryd.prog.wideKeysFrom ·)) = true := by kernel_rfl
theorem k18 : Rows.fnExactFindSheetSpec.vars.all (Tryd.prog.varReadable ·) = true := by kernel_rfl
theorem k19 : Tryd.f12.resultTypes.all (fun t => Tryd.prog.readableRec t && decide (t < Tryd.prog.types.size)) = true := by kernel_rfl
theorem k20 : (Rows.fnExactFindSheetRow.ifacesOut == Tryd.f12.resultTypes.toList.any (Tryd.prog.ifacesRec ·)) = true := by kernel_rfl
theorem k21 : (Rows.fnExactFindSheetRow.loopsOut == Tryd.f12.resultTypes.toList.any (Tryd.prog.loopsFrom ·)) = true := by kernel_rfl
theorem k23 : Rows.fnExactFindSheetRow.shortTexts.isNone = true := by kernel_rfl
theorem k28 : facts.kindsOf Tryd.prog Tryd.f12 Rows.fnExactFindSheetRow = true := by kernel_rfl
theorem k29 : (Rows.fnExactFindSheetRow.pinned == Rows.fnExactFindSheetRow.pinnedBy) = true := by kernel_rfl
theorem k30 : (Rows.fnExactFindSheetRow.veiled == (Tryd.f12.params.toList ++ Rows.fnExactFindSheetSpec.plain.varTypes Tryd.prog ++ Tryd.f12.resultTypes.toList).any (Tryd.prog.veiledRec ·)) = true := by kernel_rfl
theorem k31 : Rows.fnExactFindSheetRow.veiledFits Tryd.prog Tryd.f12.params.toList (Tryd.f12.params.toList ++ Rows.fnExactFindSheetSpec.plain.varTypes Tryd.prog ++ Tryd.f12.resultTypes.toList) = true := by kernel_rfl
theorem named : Tryd.pinned.checked.prog.funcNamed Rows.fnExactFindSheetRow.func = some 12 := by kernel_rfl
theorem inst : decide (Tryd.f12.isInstance Tryd.prog Rows.fnExactFindSheetRow.origin Rows.fnExactFindSheetRow.targs) = true := by kernel_rfl
theorem stand : (Tryd.f12.params.toList.all fun u => !Tryd.prog.wantsStandIn u) = true := by kernel_rfl
theorem wft : Rows.fnExactFindSheetRow.wfByText (OpenSpec.ofChange Rows.fnExactFindSheetSpec) = true := by kernel_rfl
theorem goes : false = Rows.fnExactFindSheetRow.goesBy Tryd.pinned.checked.prog := by kernel_rfl
end Go.Proofs.YtcbbabepjfiigaaDoor.lawFindSheet
