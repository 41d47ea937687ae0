/-
  THE LAW FnExactDayText: the facts of its row, each one by itself.
-/
import Derived.Test.YtjfimmfnhlimkaaDoorCards
import Derived.Test.YtjfimmfnhlimkaaDoorTie
import Derived.Test.YtjfimmfnhlimkaaDoorJoined
import Derived.ProofKit
namespace Go.Proofs.YtjfimmfnhlimkaaDoor.lawDayText
open Go
theorem k0 : Rows.fnExactDayTextRow.wf (OpenSpec.ofChange Rows.fnExactDayTextSpec) = true := by kernel_rfl
theorem k3 : Tryd.f5.params.all (Tryd.prog.readableRec ·) = true := by kernel_rfl
theorem k4 : namedTie Tryd.prog Rows.fnExactDayTextRow.named Rows.fnExactDayTextSpec.vars = true := by kernel_rfl
theorem k5 : (Rows.fnExactDayTextRow.stops == []) = true := by kernel_rfl
theorem k7 : (Rows.fnExactDayTextRow.knobs == []) = true := by kernel_rfl
theorem k9 : (Rows.fnExactDayTextRow.inPlace == Tryd.prog.inPlace 5) = true := by kernel_rfl
theorem k10 : (Rows.fnExactDayTextRow.unfollowed == Tryd.prog.unfollowed 5) = true := by kernel_rfl
theorem k11 : (Rows.fnExactDayTextRow.recurses == Tryd.prog.recurses 5) = true := by kernel_rfl
theorem k12 : (Rows.fnExactDayTextRow.named == Tryd.prog.varsNamed 5) = true := by kernel_rfl
theorem k13 : (Rows.fnExactDayTextRow.maps == (Tryd.f5.params.toList ++ Rows.fnExactDayTextSpec.plain.varTypes Tryd.prog).any (Tryd.prog.mapsRec ·)) = true := by kernel_rfl
theorem k14 : (Rows.fnExactDayTextRow.ifaces == (Tryd.f5.params.toList ++ Rows.fnExactDayTextSpec.plain.varTypes Tryd.prog).any (Tryd.prog.ifacesRec ·)) = true := by kernel_rfl
theorem k15 : (Rows.fnExactDayTextRow.mapsOut == Tryd.prog.mapsAmong Tryd.f5.resultTypes.toList) = true := by kernel_rfl
theorem k16 : (Rows.fnExactDayTextRow.loops == (Tryd.f5.params.toList ++ Rows.fnExactDayTextSpec.plain.varTypes Tryd.prog).any (Tryd.prog.loopsFrom ·)) = true := by kernel_rfl
theorem k17 : (Rows.fnExactDayTextRow.wideKeys == (Tryd.f5.params.toList ++ Rows.fnExactDayTextSpec.plain.varTypes Tryd.prog ++ Tryd.f5.resultTypes.toList).any (Tryd.prog.wideKeysFrom ·)) = true := by kernel_rfl
theorem k18 : Rows.fnExactDayTextSpec.vars.all (Tryd.prog.varReadable ·) = true := by kernel_rfl
theorem k19 : Tryd.f5.resultTypes.all (fun t => Tryd.prog.readableRec t && decide (t < Tryd.prog.types.size)) = true := by kernel_rfl
theorem k20 : (Rows.fnExactDayTextRow.ifacesOut == Tryd.f5.resultTypes.toList.any (Tryd.prog.ifacesRec ·)) = true := by kernel_rfl
theorem k21 : (Rows.fnExactDayTextRow.loopsOut == Tryd.f5.resultTypes.toList.any (Tryd.prog.loopsFrom ·)) = true := by kernel_rfl
theorem k23 : Rows.fnExactDayTextRow.shortTexts.isNone = true := by kernel_rfl
theorem k28 : facts.kindsOf Tryd.prog Tryd.f5 Rows.fnExactDayTextRow = true := by kernel_rfl
theorem k29 : (Rows.fnExactDayTextRow.pinned == Rows.fnExactDayTextRow.pinnedBy) = true := by kernel_rfl
theorem k30 : (Rows.fnExactDayTextRow.veiled == (Tryd.f5.params.toList ++ Rows.fnExactDayTextSpec.plain.varTypes Tryd.prog ++ Tryd.f5.resultTypes.toList).any (Tryd.prog.veiledRec ·)) = true := by kernel_rfl
theorem k31 : Rows.fnExactDayTextRow.veiledFits Tryd.prog Tryd.f5.params.toList (Tryd.f5.params.toList ++ Rows.fnExactDayTextSpec.plain.varTypes Tryd.prog ++ Tryd.f5.resultTypes.toList) = true := by kernel_rfl
theorem named : Tryd.pinned.checked.prog.funcNamed Rows.fnExactDayTextRow.func = some 5 := by kernel_rfl
theorem inst : decide (Tryd.f5.isInstance Tryd.prog Rows.fnExactDayTextRow.origin Rows.fnExactDayTextRow.targs) = true := by kernel_rfl
theorem stand : (Tryd.f5.params.toList.all fun u => !Tryd.prog.wantsStandIn u) = true := by kernel_rfl
theorem wft : Rows.fnExactDayTextRow.wfByText (OpenSpec.ofChange Rows.fnExactDayTextSpec) = true := by kernel_rfl
theorem goes : false = Rows.fnExactDayTextRow.goesBy Tryd.pinned.checked.prog := by kernel_rfl
end Go.Proofs.YtjfimmfnhlimkaaDoor.lawDayText
