/-
  THE LAW FnExactMayMeet: the facts of its row, each one by itself.
-/
import Derived.Test.YtechjcplaaagfaaDoorCards
import Derived.Test.YtechjcplaaagfaaDoorTie
import Derived.Test.YtechjcplaaagfaaDoorJoined
import Derived.ProofKit
namespace Go.Proofs.YtechjcplaaagfaaDoor.lawMayMeet
open Go
theorem k0 : Rows.fnExactMayMeetRow.wf (OpenSpec.ofChange Rows.fnExactMayMeetSpec) = true := by kernel_rfl
theorem k3 : Tryd.f3.params.all (Tryd.prog.readableRec ·) = true := by kernel_rfl
theorem k4 : namedTie Tryd.prog Rows.fnExactMayMeetRow.named Rows.fnExactMayMeetSpec.vars = true := by kernel_rfl
theorem k5 : (Rows.fnExactMayMeetRow.stops == []) = true := by kernel_rfl
theorem k7 : (Rows.fnExactMayMeetRow.knobs == []) = true := by kernel_rfl
theorem k9 : (Rows.fnExactMayMeetRow.inPlace == Tryd.prog.inPlace 3) = true := by kernel_rfl
theorem k10 : (Rows.fnExactMayMeetRow.unfollowed == Tryd.prog.unfollowed 3) = true := by kernel_rfl
theorem k11 : (Rows.fnExactMayMeetRow.recurses == Tryd.prog.recurses 3) = true := by kernel_rfl
theorem k12 : (Rows.fnExactMayMeetRow.named == Tryd.prog.varsNamed 3) = true := by kernel_rfl
theorem k13 : (Rows.fnExactMayMeetRow.maps == (Tryd.f3.params.toList ++ Rows.fnExactMayMeetSpec.plain.varTypes Tryd.prog).any (Tryd.prog.mapsRec ·)) = true := by kernel_rfl
theorem k14 : (Rows.fnExactMayMeetRow.ifaces == (Tryd.f3.params.toList ++ Rows.fnExactMayMeetSpec.plain.varTypes Tryd.prog).any (Tryd.prog.ifacesRec ·)) = true := by kernel_rfl
theorem k15 : (Rows.fnExactMayMeetRow.mapsOut == Tryd.prog.mapsAmong Tryd.f3.resultTypes.toList) = true := by kernel_rfl
theorem k16 : (Rows.fnExactMayMeetRow.loops == (Tryd.f3.params.toList ++ Rows.fnExactMayMeetSpec.plain.varTypes Tryd.prog).any (Tryd.prog.loopsFrom ·)) = true := by kernel_rfl
theorem k17 : (Rows.fnExactMayMeetRow.wideKeys == (Tryd.f3.params.toList ++ Rows.fnExactMayMeetSpec.plain.varTypes Tryd.prog ++ Tryd.f3.resultTypes.toList).any (Tryd.prog.wideKeysFrom ·)) = true := by kernel_rfl
theorem k18 : Rows.fnExactMayMeetSpec.vars.all (Tryd.prog.varReadable ·) = true := by kernel_rfl
theorem k19 : Tryd.f3.resultTypes.all (fun t => Tryd.prog.readableRec t && decide (t < Tryd.prog.types.size)) = true := by kernel_rfl
theorem k20 : (Rows.fnExactMayMeetRow.ifacesOut == Tryd.f3.resultTypes.toList.any (Tryd.prog.ifacesRec ·)) = true := by kernel_rfl
theorem k21 : (Rows.fnExactMayMeetRow.loopsOut == Tryd.f3.resultTypes.toList.any (Tryd.prog.loopsFrom ·)) = true := by kernel_rfl
theorem k23 : Rows.fnExactMayMeetRow.shortTexts.isNone = true := by kernel_rfl
theorem k28 : facts.kindsOf Tryd.prog Tryd.f3 Rows.fnExactMayMeetRow = true := by kernel_rfl
theorem k29 : (Rows.fnExactMayMeetRow.pinned == Rows.fnExactMayMeetRow.pinnedBy) = true := by kernel_rfl
theorem k30 : (Rows.fnExactMayMeetRow.veiled == (Tryd.f3.params.toList ++ Rows.fnExactMayMeetSpec.plain.varTypes Tryd.prog ++ Tryd.f3.resultTypes.toList).any (Tryd.prog.veiledRec ·)) = true := by kernel_rfl
theorem k31 : Rows.fnExactMayMeetRow.veiledFits Tryd.prog Tryd.f3.params.toList (Tryd.f3.params.toList ++ Rows.fnExactMayMeetSpec.plain.varTypes Tryd.prog ++ Tryd.f3.resultTypes.toList) = true := by kernel_rfl
theorem named : Tryd.pinned.checked.prog.funcNamed Rows.fnExactMayMeetRow.func = some 3 := by kernel_rfl
theorem inst : decide (Tryd.f3.isInstance Tryd.prog Rows.fnExactMayMeetRow.origin Rows.fnExactMayMeetRow.targs) = true := by kernel_rfl
theorem stand : (Tryd.f3.params.toList.all fun u => !Tryd.prog.wantsStandIn u) = true := by kernel_rfl
theorem wft : Rows.fnExactMayMeetRow.wfByText (OpenSpec.ofChange Rows.fnExactMayMeetSpec) = true := by kernel_rfl
theorem goes : false = Rows.fnExactMayMeetRow.goesBy Tryd.pinned.checked.prog := by kernel_rfl
end Go.Proofs.YtechjcplaaagfaaDoor.lawMayMeet
