/-
  THE LAW FnExactFinishTimes: the facts of its row, each one by itself.
-/
import Derived.Test.YtajhdgoinghmmaaDoorCards
import Derived.Test.YtajhdgoinghmmaaDoorTie
import Derived.Test.YtajhdgoinghmmaaDoorJoined
import Derived.ProofKit
namespace Go.Proofs.YtajhdgoinghmmaaDoor.lawFinishTimes
open Go
theorem k0 : Rows.fnExactFinishTimesRow.wf (OpenSpec.ofChange Rows.fnExactFinishTimesSpec) = true := by kernel_rfl
theorem k3 : Tryd.f4.params.all (Tryd.prog.readableRec ·) = true := by kernel_rfl
theorem k4 : namedTie Tryd.prog Rows.fnExactFinishTimesRow.named Rows.fnExactFinishTimesSpec.vars = true := by kernel_rfl
theorem k5 : (Rows.fnExactFinishTimesRow.stops == []) = true := by kernel_rfl
theorem k7 : (Rows.fnExactFinishTimesRow.knobs == []) = true := by kernel_rfl
theorem k9 : (Rows.fnExactFinishTimesRow.inPlace == Tryd.prog.inPlace 4) = true := by kernel_rfl
theorem k10 : (Rows.fnExactFinishTimesRow.unfollowed == Tryd.prog.unfollowed 4) = true := by kernel_rfl
theorem k11 : (Rows.fnExactFinishTimesRow.recurses == Tryd.prog.recurses 4) = true := by kernel_rfl
theorem k12 : (Rows.fnExactFinishTimesRow.named == Tryd.prog.varsNamed 4) = true := by kernel_rfl
theorem k13 : (Rows.fnExactFinishTimesRow.maps == (Tryd.f4.params.toList ++ Rows.fnExactFinishTimesSpec.plain.varTypes Tryd.prog).any (Tryd.prog.mapsRec ·)) = true := by kernel_rfl
theorem k14 : (Rows.fnExactFinishTimesRow.ifaces == (Tryd.f4.params.toList ++ Rows.fnExactFinishTimesSpec.plain.varTypes Tryd.prog).any (Tryd.prog.ifacesRec ·)) = true := by kernel_rfl
theorem k15 : (Rows.fnExactFinishTimesRow.mapsOut == Tryd.prog.mapsAmong Tryd.f4.resultTypes.toList) = true := by kernel_rfl
theorem k16 : (Rows.fnExactFinishTimesRow.loops == (Tryd.f4.params.toList ++ Rows.fnExactFinishTimesSpec.plain.varTypes Tryd.prog).any (Tryd.prog.loopsFrom ·)) = true := by kernel_rfl
theorem k17 : (Rows.fnExactFinishTimesRow.wideKeys == (Tryd.f4.params.toList ++ Rows.fnExactFinishTimesSpec.plain.varTypes Tryd.prog ++ Tryd.f4.resultTypes.toList).any (Tryd.prog.wideKeysFrom ·)) = true := by kernel_rfl
theorem k18 : Rows.fnExactFinishTimesSpec.vars.all (Tryd.prog.varReadable ·) = true := by kernel_rfl
theorem k19 : Tryd.f4.resultTypes.all (fun t => Tryd.prog.readableRec t && decide (t < Tryd.prog.types.size)) = true := by kernel_rfl
theorem k20 : (Rows.fnExactFinishTimesRow.ifacesOut == Tryd.f4.resultTypes.toList.any (Tryd.prog.ifacesRec ·)) = true := by kernel_rfl
theorem k21 : (Rows.fnExactFinishTimesRow.loopsOut == Tryd.f4.resultTypes.toList.any (Tryd.prog.loopsFrom ·)) = true := by kernel_rfl
theorem k23 : Rows.fnExactFinishTimesRow.shortTexts.isNone = true := by kernel_rfl
theorem k28 : facts.kindsOf Tryd.prog Tryd.f4 Rows.fnExactFinishTimesRow = true := by kernel_rfl
theorem k29 : (Rows.fnExactFinishTimesRow.pinned == Rows.fnExactFinishTimesRow.pinnedBy) = true := by kernel_rfl
theorem k30 : (Rows.fnExactFinishTimesRow.veiled == (Tryd.f4.params.toList ++ Rows.fnExactFinishTimesSpec.plain.varTypes Tryd.prog ++ Tryd.f4.resultTypes.toList).any (Tryd.prog.veiledRec ·)) = true := by kernel_rfl
theorem k31 : Rows.fnExactFinishTimesRow.veiledFits Tryd.prog Tryd.f4.params.toList (Tryd.f4.params.toList ++ Rows.fnExactFinishTimesSpec.plain.varTypes Tryd.prog ++ Tryd.f4.resultTypes.toList) = true := by kernel_rfl
theorem named : Tryd.pinned.checked.prog.funcNamed Rows.fnExactFinishTimesRow.func = some 4 := by kernel_rfl
theorem inst : decide (Tryd.f4.isInstance Tryd.prog Rows.fnExactFinishTimesRow.origin Rows.fnExactFinishTimesRow.targs) = true := by kernel_rfl
theorem stand : (Tryd.f4.params.toList.all fun u => !Tryd.prog.wantsStandIn u) = true := by kernel_rfl
theorem wft : Rows.fnExactFinishTimesRow.wfByText (OpenSpec.ofChange Rows.fnExactFinishTimesSpec) = true := by kernel_rfl
theorem goes : false = Rows.fnExactFinishTimesRow.goesBy Tryd.pinned.checked.prog := by kernel_rfl
end Go.Proofs.YtajhdgoinghmmaaDoor.lawFinishTimes
