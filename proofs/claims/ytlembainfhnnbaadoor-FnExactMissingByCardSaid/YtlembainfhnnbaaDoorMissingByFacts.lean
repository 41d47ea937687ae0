/-
  THE LAW FnExactMissingBy: the facts of its row, each one by itself.
-/
import Derived.Test.YtlembainfhnnbaaDoorCards
import Derived.Test.YtlembainfhnnbaaDoorTie
import Derived.Test.YtlembainfhnnbaaDoorJoined
import Derived.ProofKit
namespace Go.Proofs.YtlembainfhnnbaaDoor.lawMissingBy
open Go
theorem k0 : Rows.fnExactMissingByRow.wf (OpenSpec.ofChange Rows.fnExactMissingBySpec) = true := by kernel_rfl
theorem k3 : Tryd.f10.params.all (Tryd.prog.readableRec ·) = true := by kernel_rfl
theorem k4 : namedTie Tryd.prog Rows.fnExactMissingByRow.named Rows.fnExactMissingBySpec.vars = true := by kernel_rfl
theorem k5 : (Rows.fnExactMissingByRow.stops == []) = true := by kernel_rfl
theorem k7 : (Rows.fnExactMissingByRow.knobs == []) = true := by kernel_rfl
theorem k9 : (Rows.fnExactMissingByRow.inPlace == Tryd.prog.inPlace 10) = true := by kernel_rfl
theorem k10 : (Rows.fnExactMissingByRow.unfollowed == Tryd.prog.unfollowed 10) = true := by kernel_rfl
theorem k11 : (Rows.fnExactMissingByRow.recurses == Tryd.prog.recurses 10) = true := by kernel_rfl
theorem k12 : (Rows.fnExactMissingByRow.named == Tryd.prog.varsNamed 10) = true := by kernel_rfl
theorem k13 : (Rows.fnExactMissingByRow.maps == (Tryd.f10.params.toList ++ Rows.fnExactMissingBySpec.plain.varTypes Tryd.prog).any (Tryd.prog.mapsRec ·)) = true := by kernel_rfl
theorem k14 : (Rows.fnExactMissingByRow.ifaces == (Tryd.f10.params.toList ++ Rows.fnExactMissingBySpec.plain.varTypes Tryd.prog).any (Tryd.prog.ifacesRec ·)) = true := by kernel_rfl
theorem k15 : (Rows.fnExactMissingByRow.mapsOut == Tryd.prog.mapsAmong Tryd.f10.resultTypes.toList) = true := by kernel_rfl
theorem k16 : (Rows.fnExactMissingByRow.loops == (Tryd.f10.params.toList ++ Rows.fnExactMissingBySpec.plain.varTypes Tryd.prog).any (Tryd.prog.loopsFrom ·)) = true := by kernel_rfl
theorem k17 : (Rows.fnExactMissingByRow.wideKeys == (Tryd.f10.params.toList ++ Rows.fnExactMissingBySpec.plain.varTypes Tryd.prog ++ Tryd.f10.resultTypes.toList).any (Tryd.prog.wideKeysFrom ·)) = true := by kernel_rfl
theorem k18 : Rows.fnExactMissingBySpec.vars.all (Tryd.prog.varReadable ·) = true := by kernel_rfl
theorem k19 : Tryd.f10.resultTypes.all (fun t => Tryd.prog.readableRec t && decide (t < Tryd.prog.types.size)) = true := by kernel_rfl
theorem k20 : (Rows.fnExactMissingByRow.ifacesOut == Tryd.f10.resultTypes.toList.any (Tryd.prog.ifacesRec ·)) = true := by kernel_rfl
theorem k21 : (Rows.fnExactMissingByRow.loopsOut == Tryd.f10.resultTypes.toList.any (Tryd.prog.loopsFrom ·)) = true := by kernel_rfl
theorem k23 : Rows.fnExactMissingByRow.shortTexts.isNone = true := by kernel_rfl
theorem k28 : facts.kindsOf Tryd.prog Tryd.f10 Rows.fnExactMissingByRow = true := by kernel_rfl
theorem k29 : (Rows.fnExactMissingByRow.pinned == Rows.fnExactMissingByRow.pinnedBy) = true := by kernel_rfl
theorem k30 : (Rows.fnExactMissingByRow.veiled == (Tryd.f10.params.toList ++ Rows.fnExactMissingBySpec.plain.varTypes Tryd.prog ++ Tryd.f10.resultTypes.toList).any (Tryd.prog.veiledRec ·)) = true := by kernel_rfl
theorem k31 : Rows.fnExactMissingByRow.veiledFits Tryd.prog Tryd.f10.params.toList (Tryd.f10.params.toList ++ Rows.fnExactMissingBySpec.plain.varTypes Tryd.prog ++ Tryd.f10.resultTypes.toList) = true := by kernel_rfl
theorem named : Tryd.pinned.checked.prog.funcNamed Rows.fnExactMissingByRow.func = some 10 := by kernel_rfl
theorem inst : decide (Tryd.f10.isInstance Tryd.prog Rows.fnExactMissingByRow.origin Rows.fnExactMissingByRow.targs) = true := by kernel_rfl
theorem stand : (Tryd.f10.params.toList.all fun u => !Tryd.prog.wantsStandIn u) = true := by kernel_rfl
theorem wft : Rows.fnExactMissingByRow.wfByText (OpenSpec.ofChange Rows.fnExactMissingBySpec) = true := by kernel_rfl
theorem goes : false = Rows.fnExactMissingByRow.goesBy Tryd.pinned.checked.prog := by kernel_rfl
end Go.Proofs.YtlembainfhnnbaaDoor.lawMissingBy
