/-
  THE LAW FnExactTotalTime: the facts of its row, each one by itself.
-/
import Derived.Test.YtajhdgoinghmmaaDoorCards
import Derived.Test.YtajhdgoinghmmaaDoorTie
import Derived.Test.YtajhdgoinghmmaaDoorJoined
import Derived.ProofKit
namespace Go.Proofs.YtajhdgoinghmmaaDoor.lawTotalTime
open Go
theorem k0 : Rows.fnExactTotalTimeRow.wf (OpenSpec.ofChange Rows.fnExactTotalTimeSpec) = true := by kernel_rfl
theorem k3 : Tryd.f5.params.all (Tryd.prog.readableRec ·) = true := by kernel_rfl
theorem k4 : namedTie Tryd.prog Rows.fnExactTotalTimeRow.named Rows.fnExactTotalTimeSpec.vars = true := by kernel_rfl
theorem k5 : (Rows.fnExactTotalTimeRow.stops == []) = true := by kernel_rfl
theorem k7 : (Rows.fnExactTotalTimeRow.knobs == []) = true := by kernel_rfl
theorem k9 : (Rows.fnExactTotalTimeRow.inPlace == Tryd.prog.inPlace 5) = true := by kernel_rfl
theorem k10 : (Rows.fnExactTotalTimeRow.unfollowed == Tryd.prog.unfollowed 5) = true := by kernel_rfl
theorem k11 : (Rows.fnExactTotalTimeRow.recurses == Tryd.prog.recurses 5) = true := by kernel_rfl
theorem k12 : (Rows.fnExactTotalTimeRow.named == Tryd.prog.varsNamed 5) = true := by kernel_rfl
theorem k13 : (Rows.fnExactTotalTimeRow.maps == (Tryd.f5.params.toList ++ Rows.fnExactTotalTimeSpec.plain.varTypes Tryd.prog).any (Tryd.prog.mapsRec ·)) = true := by kernel_rfl
theorem k14 : (Rows.fnExactTotalTimeRow.ifaces == (Tryd.f5.params.toList ++ Rows.fnExactTotalTimeSpec.plain.varTypes Tryd.prog).any (Tryd.prog.ifacesRec ·)) = true := by kernel_rfl
theorem k15 : (Rows.fnExactTotalTimeRow.mapsOut == Tryd.prog.mapsAmong Tryd.f5.resultTypes.toList) = true := by kernel_rfl
theorem k16 : (Rows.fnExactTotalTimeRow.loops == (Tryd.f5.params.toList ++ Rows.fnExactTotalTimeSpec.plain.varTypes Tryd.prog).any (Tryd.prog.loopsFrom ·)) = true := by kernel_rfl
theorem k17 : (Rows.fnExactTotalTimeRow.wideKeys == (Tryd.f5.params.toList ++ Rows.fnExactTotalTimeSpec.plain.varTypes Tryd.prog ++ Tryd.f5.resultTypes.toList).any (Tryd.prog.wideKeysFrom ·)) = true := by kernel_rfl
theorem k18 : Rows.fnExactTotalTimeSpec.vars.all (Tryd.prog.varReadable ·) = true := by kernel_rfl
theorem k19 : Tryd.f5.resultTypes.all (fun t => Tryd.prog.readableRec t && decide (t < Tryd.prog.types.size)) = true := by kernel_rfl
theorem k20 : (Rows.fnExactTotalTimeRow.ifacesOut == Tryd.f5.resultTypes.toList.any (Tryd.prog.ifacesRec ·)) = true := by kernel_rfl
theorem k21 : (Rows.fnExactTotalTimeRow.loopsOut == Tryd.f5.resultTypes.toList.any (Tryd.prog.loopsFrom ·)) = true := by kernel_rfl
theorem k23 : Rows.fnExactTotalTimeRow.shortTexts.isNone = true := by kernel_rfl
theorem k28 : facts.kindsOf Tryd.prog Tryd.f5 Rows.fnExactTotalTimeRow = true := by kernel_rfl
theorem k29 : (Rows.fnExactTotalTimeRow.pinned == Rows.fnExactTotalTimeRow.pinnedBy) = true := by kernel_rfl
theorem k30 : (Rows.fnExactTotalTimeRow.veiled == (Tryd.f5.params.toList ++ Rows.fnExactTotalTimeSpec.plain.varTypes Tryd.prog ++ Tryd.f5.resultTypes.toList).any (Tryd.prog.veiledRec ·)) = true := by kernel_rfl
theorem k31 : Rows.fnExactTotalTimeRow.veiledFits Tryd.prog Tryd.f5.params.toList (Tryd.f5.params.toList ++ Rows.fnExactTotalTimeSpec.plain.varTypes Tryd.prog ++ Tryd.f5.resultTypes.toList) = true := by kernel_rfl
theorem named : Tryd.pinned.checked.prog.funcNamed Rows.fnExactTotalTimeRow.func = some 5 := by kernel_rfl
theorem inst : decide (Tryd.f5.isInstance Tryd.prog Rows.fnExactTotalTimeRow.origin Rows.fnExactTotalTimeRow.targs) = true := by kernel_rfl
theorem stand : (Tryd.f5.params.toList.all fun u => !Tryd.prog.wantsStandIn u) = true := by kernel_rfl
theorem wft : Rows.fnExactTotalTimeRow.wfByText (OpenSpec.ofChange Rows.fnExactTotalTimeSpec) = true := by kernel_rfl
theorem goes : false = Rows.fnExactTotalTimeRow.goesBy Tryd.pinned.checked.prog := by kernel_rfl
end Go.Proofs.YtajhdgoinghmmaaDoor.lawTotalTime
