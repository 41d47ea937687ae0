/-
  THE LAW FnExactFoldSheet: the facts of its row, each one by itself.
-/
import Derived.Test.YtcbbabepjfiigaaDoorCards
import Derived.Test.YtcbbabepjfiigaaDoorTie
import Derived.Test.YtcbbabepjfiigaaDoorJoined
import Derived.ProofKit
namespace Go.Proofs.YtcbbabepjfiigaaDoor.lawFoldSheet
open Go
theorem k0 : Rows.fnExactFoldSheetRow.wf (OpenSpec.ofChange Rows.fnExactFoldSheetSpec) = true := by kernel_rfl
theorem k3 : Tryd.f3.params.all (Tryd.prog.readableRec ·) = true := by kernel_rfl
theorem k4 : namedTie Tryd.prog Rows.fnExactFoldSheetRow.named Rows.fnExactFoldSheetSpec.vars = true := by kernel_rfl
theorem k5 : (Rows.fnExactFoldSheetRow.stops == []) = true := by kernel_rfl
theorem k7 : (Rows.fnExactFoldSheetRow.knobs == []) = true := by kernel_rfl
theorem k9 : (Rows.fnExactFoldSheetRow.inPlace == Tryd.prog.inPlace 3) = true := by kernel_rfl
theorem k10 : (Rows.fnExactFoldSheetRow.unfollowed == Tryd.prog.unfollowed 3) = true := by kernel_rfl
theorem k11 : (Rows.fnExactFoldSheetRow.recurses == Tryd.prog.recurses 3) = true := by kernel_rfl
theorem k12 : (Rows.fnExactFoldSheetRow.named == Tryd.prog.varsNamed 3) = true := by kernel_rfl
theorem k13 : (Rows.fnExactFoldSheetRow.maps == (Tryd.f3.params.toList ++ Rows.fnExactFoldSheetSpec.plain.varTypes Tryd.prog).any (Tryd.prog.mapsRec ·)) = true := by kernel_rfl
theorem k14 : (Rows.fnExactFoldSheetRow.ifaces == (Tryd.f3.params.toList ++ Rows.fnExactFoldSheetSpec.plain.varTypes Tryd.prog).any (Tryd.prog.ifacesRec ·)) = true := by kernel_rfl
theorem k15 : (Rows.fnExactFoldSheetRow.mapsOut == Tryd.prog.mapsAmong Tryd.f3.resultTypes.toList) = true := by kernel_rfl
theorem k16 : (Rows.fnExactFoldSheetRow.loops == (Tryd.f3.params.toList ++ Rows.fnExactFoldSheetSpec.plain.varTypes Tryd.prog).any (Tryd.prog.loopsFrom ·)) = true := by kernel_rfl
theorem k17 : (Rows.fnExactFoldSheetRow.wideKeys == (Tryd.f3.params.toList ++ Rows.fnExactFoldSheetSpec.plain.varTypes Tryd.prog ++ Tryd.f3.resultTypes.toList).any (Tryd.prog.wideKeysFrom ·)) = true := by kernel_rfl
theorem k18 : Rows.fnExactFoldSheetSpec.vars.all (Tryd.prog.varReadable ·) = true := by kernel_rfl
theorem k19 : Tryd.f3.resultTypes.all (fun t => Tryd.prog.readableRec t && decide (t < Tryd.prog.types.size)) = true := by kernel_rfl
theorem k20 : (Rows.fnExactFoldSheetRow.ifacesOut == Tryd.f3.resultTypes.toList.any (Tryd.prog.ifacesRec ·)) = true := by kernel_rfl
theorem k21 : (Rows.fnExactFoldSheetRow.loopsOut == Tryd.f3.resultTypes.toList.any (Tryd.prog.loopsFrom ·)) = true := by kernel_rfl
theorem k23 : Rows.fnExactFoldSheetRow.shortTexts.isNone = true := by kernel_rfl
theorem k28 : facts.kindsOf Tryd.prog Tryd.f3 Rows.fnExactFoldSheetRow = true := by kernel_rfl
theorem k29 : (Rows.fnExactFoldSheetRow.pinned == Rows.fnExactFoldSheetRow.pinnedBy) = true := by kernel_rfl
theorem k30 : (Rows.fnExactFoldSheetRow.veiled == (Tryd.f3.params.toList ++ Rows.fnExactFoldSheetSpec.plain.varTypes Tryd.prog ++ Tryd.f3.resultTypes.toList).any (Tryd.prog.veiledRec ·)) = true := by kernel_rfl
theorem k31 : Rows.fnExactFoldSheetRow.veiledFits Tryd.prog Tryd.f3.params.toList (Tryd.f3.params.toList ++ Rows.fnExactFoldSheetSpec.plain.varTypes Tryd.prog ++ Tryd.f3.resultTypes.toList) = true := by kernel_rfl
theorem named : Tryd.pinned.checked.prog.funcNamed Rows.fnExactFoldSheetRow.func = some 3 := by kernel_rfl
theorem inst : decide (Tryd.f3.isInstance Tryd.prog Rows.fnExactFoldSheetRow.origin Rows.fnExactFoldSheetRow.targs) = true := by kernel_rfl
theorem stand : (Tryd.f3.params.toList.all fun u => !Tryd.prog.wantsStandIn u) = true := by kernel_rfl
theorem wft : Rows.fnExactFoldSheetRow.wfByText (OpenSpec.ofChange Rows.fnExactFoldSheetSpec) = true := by kernel_rfl
theorem goes : false = Rows.fnExactFoldSheetRow.goesBy Tryd.pinned.checked.prog := by kernel_rfl
end Go.Proofs.YtcbbabepjfiigaaDoor.lawFoldSheet
