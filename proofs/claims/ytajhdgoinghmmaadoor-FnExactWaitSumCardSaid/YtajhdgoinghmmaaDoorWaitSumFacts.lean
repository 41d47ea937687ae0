/-
  THE LAW FnExactWaitSum: the facts of its row, each one by itself.
-/
import Derived.Test.YtajhdgoinghmmaaDoorCards
import Derived.Test.YtajhdgoinghmmaaDoorTie
import Derived.Test.YtajhdgoinghmmaaDoorJoined
import Derived.ProofKit
namespace Go.Proofs.YtajhdgoinghmmaaDoor.lawWaitSum
open Go
theorem k0 : Rows.fnExactWaitSumRow.wf (OpenSpec.ofChange Rows.fnExactWaitSumSpec) = true := by kernel_rfl
theorem k3 : Tryd.f12.params.all (Tryd.prog.readableRec ·) = true := by kernel_rfl
theorem k4 : namedTie Tryd.prog Rows.fnExactWaitSumRow.named Rows.fnExactWaitSumSpec.vars = true := by kernel_rfl
theorem k5 : (Rows.fnExactWaitSumRow.stops == []) = true := by kernel_rfl
theorem k7 : (Rows.fnExactWaitSumRow.knobs == []) = true := by kernel_rfl
theorem k9 : (Rows.fnExactWaitSumRow.inPlace == Tryd.prog.inPlace 12) = true := by kernel_rfl
theorem k10 : (Rows.fnExactWaitSumRow.unfollowed == Tryd.prog.unfollowed 12) = true := by kernel_rfl
theorem k11 : (Rows.fnExactWaitSumRow.recurses == Tryd.prog.recurses 12) = true := by kernel_rfl
theorem k12 : (Rows.fnExactWaitSumRow.named == Tryd.prog.varsNamed 12) = true := by kernel_rfl
theorem k13 : (Rows.fnExactWaitSumRow.maps == (Tryd.f12.params.toList ++ Rows.fnExactWaitSumSpec.plain.varTypes Tryd.prog).any (Tryd.prog.mapsRec ·)) = true := by kernel_rfl
theorem k14 : (Rows.fnExactWaitSumRow.ifaces == (Tryd.f12.params.toList ++ Rows.fnExactWaitSumSpec.plain.varTypes Tryd.prog).any (Tryd.prog.ifacesRec ·)) = true := by kernel_rfl
theorem k15 : (Rows.fnExactWaitSumRow.mapsOut == Tryd.prog.mapsAmong Tryd.f12.resultTypes.toList) = true := by kernel_rfl
theorem k16 : (Rows.fnExactWaitSumRow.loops == (Tryd.f12.params.toList ++ Rows.fnExactWaitSumSpec.plain.varTypes Tryd.prog).any (Tryd.prog.loopsFrom ·)) = true := by kernel_rfl
theorem k17 : (Rows.fnExactWaitSumRow.wideKeys == (Tryd.f12.params.toList ++ Rows.fnExactWaitSumSpec.plain.varTypes Tryd.prog ++ Tryd.f12.resultTypes.toList).any (Tryd.prog.wideKeysFrom ·)) = true := by kernel_rfl
theorem k18 : Rows.fnExactWaitSumSpec.vars.all (Tryd.prog.varReadable ·) = true := by kernel_rfl
theorem k19 : Tryd.f12.resultTypes.all (fun t => Tryd.prog.readableRec t && decide (t < Tryd.prog.types.size)) = true := by kernel_rfl
theorem k20 : (Rows.fnExactWaitSumRow.ifacesOut == Tryd.f12.resultTypes.toList.any (Tryd.prog.ifacesRec ·)) = true := by kernel_rfl
theorem k21 : (Rows.fnExactWaitSumRow.loopsOut == Tryd.f12.resultTypes.toList.any (Tryd.prog.loopsFrom ·)) = true := by kernel_rfl
theorem k23 : Rows.fnExactWaitSumRow.shortTexts.isNone = true := by kernel_rfl
theorem k28 : facts.kindsOf Tryd.prog Tryd.f12 Rows.fnExactWaitSumRow = true := by kernel_rfl
theorem k29 : (Rows.fnExactWaitSumRow.pinned == Rows.fnExactWaitSumRow.pinnedBy) = true := by kernel_rfl
theorem k30 : (Rows.fnExactWaitSumRow.veiled == (Tryd.f12.params.toList ++ Rows.fnExactWaitSumSpec.plain.varTypes Tryd.prog ++ Tryd.f12.resultTypes.toList).any (Tryd.prog.veiledRec ·)) = true := by kernel_rfl
theorem k31 : Rows.fnExactWaitSumRow.veiledFits Tryd.prog Tryd.f12.params.toList (Tryd.f12.params.toList ++ Rows.fnExactWaitSumSpec.plain.varTypes Tryd.prog ++ Tryd.f12.resultTypes.toList) = true := by kernel_rfl
theorem named : Tryd.pinned.checked.prog.funcNamed Rows.fnExactWaitSumRow.func = some 12 := by kernel_rfl
theorem inst : decide (Tryd.f12.isInstance Tryd.prog Rows.fnExactWaitSumRow.origin Rows.fnExactWaitSumRow.targs) = true := by kernel_rfl
theorem stand : (Tryd.f12.params.toList.all fun u => !Tryd.prog.wantsStandIn u) = true := by kernel_rfl
theorem wft : Rows.fnExactWaitSumRow.wfByText (OpenSpec.ofChange Rows.fnExactWaitSumSpec) = true := by kernel_rfl
theorem goes : false = Rows.fnExactWaitSumRow.goesBy Tryd.pinned.checked.prog := by kernel_rfl
end Go.Proofs.YtajhdgoinghmmaaDoor.lawWaitSum
