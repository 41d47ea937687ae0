/-
  THE LAW FnExactChangeTime: the facts of its row, each one by itself.
-/
import Derived.Test.YtajhdgoinghmmaaDoorCards
import Derived.Test.YtajhdgoinghmmaaDoorTie
import Derived.Test.YtajhdgoinghmmaaDoorJoined
import Derived.ProofKit
namespace Go.Proofs.YtajhdgoinghmmaaDoor.lawChangeTime
open Go
theorem k0 : Rows.fnExactChangeTimeRow.wf (OpenSpec.ofChange Rows.fnExactChangeTimeSpec) = true := by kernel_rfl
theorem k3 : Tryd.f3.params.all (Tryd.prog.readableRec ·) = true := by kernel_rfl
theorem k4 : namedTie Tryd.prog Rows.fnExactChangeTimeRow.named Rows.fnExactChangeTimeSpec.vars = true := by kernel_rfl
theorem k5 : (Rows.fnExactChangeTimeRow.stops == []) = true := by kernel_rfl
theorem k7 : (Rows.fnExactChangeTimeRow.knobs == []) = true := by kernel_rfl
theorem k9 : (Rows.fnExactChangeTimeRow.inPlace == Tryd.prog.inPlace 3) = true := by kernel_rfl
theorem k10 : (Rows.fnExactChangeTimeRow.unfollowed == Tryd.prog.unfollowed 3) = true := by kernel_rfl
theorem k11 : (Rows.fnExactChangeTimeRow.recurses == Tryd.prog.recurses 3) = true := by kernel_rfl
theorem k12 : (Rows.fnExactChangeTimeRow.named == Tryd.prog.varsNamed 3) = true := by kernel_rfl
theorem k13 : (Rows.fnExactChangeTimeRow.maps == (Tryd.f3.params.toList ++ Rows.fnExactChangeTimeSpec.plain.varTypes Tryd.prog).any (Tryd.prog.mapsRec ·)) = true := by kernel_rfl
theorem k14 : (Rows.fnExactChangeTimeRow.ifaces == (Tryd.f3.params.toList ++ Rows.fnExactChangeTimeSpec.plain.varTypes Tryd.prog).any (Tryd.prog.ifacesRec ·)) = true := by kernel_rfl
theorem k15 : (Rows.fnExactChangeTimeRow.mapsOut == Tryd.prog.mapsAmong Tryd.f3.resultTypes.toList) = true := by kernel_rfl
theorem k16 : (Rows.fnExactChangeTimeRow.loops == (Tryd.f3.params.toList ++ Rows.fnExactChangeTimeSpec.plain.varTypes Tryd.prog).any (Tryd.prog.loopsFrom ·)) = true := by kernel_rfl
theorem k17 : (Rows.fnExactChangeTimeRow.wideKeys == (Tryd.f3.params.toList ++ Rows.fnExactChangeTimeSpec.plain.varTypes Tryd.prog ++ Tryd.f3.resultTypes.toList).any (Tryd.prog.wideKeysFrom ·)) = true := by kernel_rfl
theorem k18 : Rows.fnExactChangeTimeSpec.vars.all (Tryd.prog.varReadable ·) = true := by kernel_rfl
theorem k19 : Tryd.f3.resultTypes.all (fun t => Tryd.prog.readableRec t && decide (t < Tryd.prog.types.size)) = true := by kernel_rfl
theorem k20 : (Rows.fnExactChangeTimeRow.ifacesOut == Tryd.f3.resultTypes.toList.any (Tryd.prog.ifacesRec ·)) = true := by kernel_rfl
theorem k21 : (Rows.fnExactChangeTimeRow.loopsOut == Tryd.f3.resultTypes.toList.any (Tryd.prog.loopsFrom ·)) = true := by kernel_rfl
theorem k23 : Rows.fnExactChangeTimeRow.shortTexts.isNone = true := by kernel_rfl
theorem k28 : facts.kindsOf Tryd.prog Tryd.f3 Rows.fnExactChangeTimeRow = true := by kernel_rfl
theorem k29 : (Rows.fnExactChangeTimeRow.pinned == Rows.fnExactChangeTimeRow.pinnedBy) = true := by kernel_rfl
theorem k30 : (Rows.fnExactChangeTimeRow.veiled == (Tryd.f3.params.toList ++ Rows.fnExactChangeTimeSpec.plain.varTypes Tryd.prog ++ Tryd.f3.resultTypes.toList).any (Tryd.prog.veiledRec ·)) = true := by kernel_rfl
theorem k31 : Rows.fnExactChangeTimeRow.veiledFits Tryd.prog Tryd.f3.params.toList (Tryd.f3.params.toList ++ Rows.fnExactChangeTimeSpec.plain.varTypes Tryd.prog ++ Tryd.f3.resultTypes.toList) = true := by kernel_rfl
theorem named : Tryd.pinned.checked.prog.funcNamed Rows.fnExactChangeTimeRow.func = some 3 := by kernel_rfl
theorem inst : decide (Tryd.f3.isInstance Tryd.prog Rows.fnExactChangeTimeRow.origin Rows.fnExactChangeTimeRow.targs) = true := by kernel_rfl
theorem stand : (Tryd.f3.params.toList.all fun u => !Tryd.prog.wantsStandIn u) = true := by kernel_rfl
theorem wft : Rows.fnExactChangeTimeRow.wfByText (OpenSpec.ofChange Rows.fnExactChangeTimeSpec) = true := by kernel_rfl
theorem goes : false = Rows.fnExactChangeTimeRow.goesBy Tryd.pinned.checked.prog := by kernel_rfl
end Go.Proofs.YtajhdgoinghmmaaDoor.lawChangeTime
