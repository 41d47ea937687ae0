/-
  THE LAW FnExactFoldsText: the facts of its row, each one by itself.
-/
import Derived.Test.YtdcckdfemelbiaaDoorCards
import Derived.Test.YtdcckdfemelbiaaDoorTie
import Derived.Test.YtdcckdfemelbiaaDoorJoined
import Derived.ProofKit
namespace Go.Proofs.YtdcckdfemelbiaaDoor.lawFoldsText
open Go
theorem k0 : Rows.fnExactFoldsTextRow.wf (OpenSpec.ofChange Rows.fnExactFoldsTextSpec) = true := by kernel_rfl
theorem k3 : Tryd.f3.params.all (Tryd.prog.readableRec ·) = true := by kernel_rfl
theorem k4 : namedTie Tryd.prog Rows.fnExactFoldsTextRow.named Rows.fnExactFoldsTextSpec.vars = true := by kernel_rfl
theorem k5 : (Rows.fnExactFoldsTextRow.stops == []) = true := by kernel_rfl
theorem k7 : (Rows.fnExactFoldsTextRow.knobs == []) = true := by kernel_rfl
theorem k9 : (Rows.fnExactFoldsTextRow.inPlace == Tryd.prog.inPlace 3) = true := by kernel_rfl
theorem k10 : (Rows.fnExactFoldsTextRow.unfollowed == Tryd.prog.unfollowed 3) = true := by kernel_rfl
theorem k11 : (Rows.fnExactFoldsTextRow.recurses == Tryd.prog.recurses 3) = true := by kernel_rfl
theorem k12 : (Rows.fnExactFoldsTextRow.named == Tryd.prog.varsNamed 3) = true := by kernel_rfl
theorem k13 : (Rows.fnExactFoldsTextRow.maps == (Tryd.f3.params.toList ++ Rows.fnExactFoldsTextSpec.plain.varTypes Tryd.prog).any (Tryd.prog.mapsRec ·)) = true := by kernel_rfl
theorem k14 : (Rows.fnExactFoldsTextRow.ifaces == (Tryd.f3.params.toList ++ Rows.fnExactFoldsTextSpec.plain.varTypes Tryd.prog).any (Tryd.prog.ifacesRec ·)) = true := by kernel_rfl
theorem k15 : (Rows.fnExactFoldsTextRow.mapsOut == Tryd.prog.mapsAmong Tryd.f3.resultTypes.toList) = true := by kernel_rfl
theorem k16 : (Rows.fnExactFoldsTextRow.loops == (Tryd.f3.params.toList ++ Rows.fnExactFoldsTextSpec.plain.varTypes Tryd.prog).any (Tryd.prog.loopsFrom ·)) = true := by kernel_rfl
theorem k17 : (Rows.fnExactFoldsTextRow.wideKeys == (Tryd.f3.params.toList ++ Rows.fnExactFoldsTextSpec.plain.varTypes Tryd.prog ++ Tryd.f3.resultTypes.toList).any (Tryd.prog.wideKeysFrom ·)) = true := by kernel_rfl
theorem k18 : Rows.fnExactFoldsTextSpec.vars.all (Tryd.prog.varReadable ·) = true := by kernel_rfl
theorem k19 : Tryd.f3.resultTypes.all (fun t => Tryd.prog.readableRec t && decide (t < Tryd.prog.types.size)) = true := by kernel_rfl
theorem k20 : (Rows.fnExactFoldsTextRow.ifacesOut == Tryd.f3.resultTypes.toList.any (Tryd.prog.ifacesRec ·)) = true := by kernel_rfl
theorem k21 : (Rows.fnExactFoldsTextRow.loopsOut == Tryd.f3.resultTypes.toList.any (Tryd.prog.loopsFrom ·)) = true := by kernel_rfl
theorem k23 : Rows.fnExactFoldsTextRow.shortTexts.isNone = true := by kernel_rfl
theorem k28 : facts.kindsOf Tryd.prog Tryd.f3 Rows.fnExactFoldsTextRow = true := by kernel_rfl
theorem k29 : (Rows.fnExactFoldsTextRow.pinned == Rows.fnExactFoldsTextRow.pinnedBy) = true := by kernel_rfl
theorem k30 : (Rows.fnExactFoldsTextRow.veiled == (Tryd.f3.params.toList ++ Rows.fnExactFoldsTextSpec.plain.varTypes Tryd.prog ++ Tryd.f3.resultTypes.toList).any (Tryd.prog.veiledRec ·)) = true := by kernel_rfl
theorem k31 : Rows.fnExactFoldsTextRow.veiledFits Tryd.prog Tryd.f3.params.toList (Tryd.f3.params.toList ++ Rows.fnExactFoldsTextSpec.plain.varTypes Tryd.prog ++ Tryd.f3.resultTypes.toList) = true := by kernel_rfl
theorem named : Tryd.pinned.checked.prog.funcNamed Rows.fnExactFoldsTextRow.func = some 3 := by kernel_rfl
theorem inst : decide (Tryd.f3.isInstance Tryd.prog Rows.fnExactFoldsTextRow.origin Rows.fnExactFoldsTextRow.targs) = true := by kernel_rfl
theorem stand : (Tryd.f3.params.toList.all fun u => !Tryd.prog.wantsStandIn u) = true := by kernel_rfl
theorem wft : Rows.fnExactFoldsTextRow.wfByText (OpenSpec.ofChange Rows.fnExactFoldsTextSpec) = true := by kernel_rfl
theorem goes : false = Rows.fnExactFoldsTextRow.goesBy Tryd.pinned.checked.prog := by kernel_rfl
end Go.Proofs.YtdcckdfemelbiaaDoor.lawFoldsText
