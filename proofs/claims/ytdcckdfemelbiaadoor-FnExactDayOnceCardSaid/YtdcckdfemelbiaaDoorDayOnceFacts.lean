/-
  THE LAW FnExactDayOnce: the facts of its row, each one by itself.
-/
import Derived.Test.YtdcckdfemelbiaaDoorCards
import Derived.Test.YtdcckdfemelbiaaDoorTie
import Derived.Test.YtdcckdfemelbiaaDoorJoined
import Derived.ProofKit
namespace Go.Proofs.YtdcckdfemelbiaaDoor.lawDayOnce
open Go
theorem k0 : Rows.fnExactDayOnceRow.wf (OpenSpec.ofChange Rows.fnExactDayOnceSpec) = true := by kernel_rfl
theorem k3 : Tryd.f10.params.all (Tryd.prog.readableRec ·) = true := by kernel_rfl
theorem k4 : namedTie Tryd.prog Rows.fnExactDayOnceRow.named Rows.fnExactDayOnceSpec.vars = true := by kernel_rfl
theorem k5 : (Rows.fnExactDayOnceRow.stops == []) = true := by kernel_rfl
theorem k7 : (Rows.fnExactDayOnceRow.knobs == []) = true := by kernel_rfl
theorem k9 : (Rows.fnExactDayOnceRow.inPlace == Tryd.prog.inPlace 10) = true := by kernel_rfl
theorem k10 : (Rows.fnExactDayOnceRow.unfollowed == Tryd.prog.unfollowed 10) = true := by kernel_rfl
theorem k11 : (Rows.fnExactDayOnceRow.recurses == Tryd.prog.recurses 10) = true := by kernel_rfl
theorem k12 : (Rows.fnExactDayOnceRow.named == Tryd.prog.varsNamed 10) = true := by kernel_rfl
theorem k13 : (Rows.fnExactDayOnceRow.maps == (Tryd.f10.params.toList ++ Rows.fnExactDayOnceSpec.plain.varTypes Tryd.prog).any (Tryd.prog.mapsRec ·)) = true := by kernel_rfl
theorem k14 : (Rows.fnExactDayOnceRow.ifaces == (Tryd.f10.params.toList ++ Rows.fnExactDayOnceSpec.plain.varTypes Tryd.prog).any (Tryd.prog.ifacesRec ·)) = true := by kernel_rfl
theorem k15 : (Rows.fnExactDayOnceRow.mapsOut == Tryd.prog.mapsAmong Tryd.f10.resultTypes.toList) = true := by kernel_rfl
theorem k16 : (Rows.fnExactDayOnceRow.loops == (Tryd.f10.params.toList ++ Rows.fnExactDayOnceSpec.plain.varTypes Tryd.prog).any (Tryd.prog.loopsFrom ·)) = true := by kernel_rfl
theorem k17 : (Rows.fnExactDayOnceRow.wideKeys == (Tryd.f10.params.toList ++ Rows.fnExactDayOnceSpec.plain.varTypes Tryd.prog ++ Tryd.f10.resultTypes.toList).any (Tryd.prog.wideKeysFrom ·)) = true := by kernel_rfl
theorem k18 : Rows.fnExactDayOnceSpec.vars.all (Tryd.prog.varReadable ·) = true := by kernel_rfl
theorem k19 : Tryd.f10.resultTypes.all (fun t => Tryd.prog.readableRec t && decide (t < Tryd.prog.types.size)) = true := by kernel_rfl
theorem k20 : (Rows.fnExactDayOnceRow.ifacesOut == Tryd.f10.resultTypes.toList.any (Tryd.prog.ifacesRec ·)) = true := by kernel_rfl
theorem k21 : (Rows.fnExactDayOnceRow.loopsOut == Tryd.f10.resultTypes.toList.any (Tryd.prog.loopsFrom ·)) = true := by kernel_rfl
theorem k23 : Rows.fnExactDayOnceRow.shortTexts.isNone = true := by kernel_rfl
theorem k28 : facts.kindsOf Tryd.prog Tryd.f10 Rows.fnExactDayOnceRow = true := by kernel_rfl
theorem k29 : (Rows.fnExactDayOnceRow.pinned == Rows.fnExactDayOnceRow.pinnedBy) = true := by kernel_rfl
theorem k30 : (Rows.fnExactDayOnceRow.veiled == (Tryd.f10.params.toList ++ Rows.fnExactDayOnceSpec.plain.varTypes Tryd.prog ++ Tryd.f10.resultTypes.toList).any (Tryd.prog.veiledRec ·)) = true := by kernel_rfl
theorem k31 : Rows.fnExactDayOnceRow.veiledFits Tryd.prog Tryd.f10.params.toList (Tryd.f10.params.toList ++ Rows.fnExactDayOnceSpec.plain.varTypes Tryd.prog ++ Tryd.f10.resultTypes.toList) = true := by kernel_rfl
theorem named : Tryd.pinned.checked.prog.funcNamed Rows.fnExactDayOnceRow.func = some 10 := by kernel_rfl
theorem inst : decide (Tryd.f10.isInstance Tryd.prog Rows.fnExactDayOnceRow.origin Rows.fnExactDayOnceRow.targs) = true := by kernel_rfl
theorem stand : (Tryd.f10.params.toList.all fun u => !Tryd.prog.wantsStandIn u) = true := by kernel_rfl
theorem wft : Rows.fnExactDayOnceRow.wfByText (OpenSpec.ofChange Rows.fnExactDayOnceSpec) = true := by kernel_rfl
theorem goes : false = Rows.fnExactDayOnceRow.goesBy Tryd.pinned.checked.prog := by kernel_rfl
end Go.Proofs.YtdcckdfemelbiaaDoor.lawDayOnce
