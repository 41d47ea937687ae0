/-
  THE LAW FnExactNearestOrder: the facts of its row, each one by itself.
-/
import Derived.Test.YtajhdgoinghmmaaDoorCards
import Derived.Test.YtajhdgoinghmmaaDoorTie
import Derived.Test.YtajhdgoinghmmaaDoorJoined
import Derived.ProofKit
namespace Go.Proofs.YtajhdgoinghmmaaDoor.lawNearestOrder
open Go
theorem k0 : Rows.fnExactNearestOrderRow.wf (OpenSpec.ofChange Rows.fnExactNearestOrderSpec) = true := by kernel_rfl
theorem k3 : Tryd.f10.params.all (Tryd.prog.readableRec ·) = true := by kernel_rfl
theorem k4 : namedTie Tryd.prog Rows.fnExactNearestOrderRow.named Rows.fnExactNearestOrderSpec.vars = true := by kernel_rfl
theorem k5 : (Rows.fnExactNearestOrderRow.stops == []) = true := by kernel_rfl
theorem k7 : (Rows.fnExactNearestOrderRow.knobs == []) = true := by kernel_rfl
theorem k9 : (Rows.fnExactNearestOrderRow.inPlace == Tryd.prog.inPlace 10) = true := by kernel_rfl
theorem k10 : (Rows.fnExactNearestOrderRow.unfollowed == Tryd.prog.unfollowed 10) = true := by kernel_rfl
theorem k11 : (Rows.fnExactNearestOrderRow.recurses == Tryd.prog.recurses 10) = true := by kernel_rfl
theorem k12 : (Rows.fnExactNearestOrderRow.named == Tryd.prog.varsNamed 10) = true := by kernel_rfl
theorem k13 : (Rows.fnExactNearestOrderRow.maps == (Tryd.f10.params.toList ++ Rows.fnExactNearestOrderSpec.plain.varTypes Tryd.prog).any (Tryd.prog.mapsRec ·)) = true := by kernel_rfl
theorem k14 : (Rows.fnExactNearestOrderRow.ifaces == (Tryd.f10.params.toList ++ Rows.fnExactNearestOrderSpec.plain.varTypes Tryd.prog).any (Tryd.prog.ifacesRec ·)) = true := by kernel_rfl
theorem k15 : (Rows.fnExactNearestOrderRow.mapsOut == Tryd.prog.mapsAmong Tryd.f10.resultTypes.toList) = true := by kernel_rfl
theorem k16 : (Rows.fnExactNearestOrderRow.loops == (Tryd.f10.params.toList ++ Rows.fnExactNearestOrderSpec.plain.varTypes Tryd.prog).any (Tryd.prog.loopsFrom ·)) = true := by kernel_rfl
theorem k17 : (Rows.fnExactNearestOrderRow.wideKeys == (Tryd.f10.params.toList ++ Rows.fnExactNearestOrderSpec.plain.varTypes Tryd.prog ++ Tryd.f10.resultTypes.toList).any (Tryd.prog.wideKeysFrom ·)) = true := by kernel_rfl
theorem k18 : Rows.fnExactNearestOrderSpec.vars.all (Tryd.prog.varReadable ·) = true := by kernel_rfl
theorem k19 : Tryd.f10.resultTypes.all (fun t => Tryd.prog.readableRec t && decide (t < Tryd.prog.types.size)) = true := by kernel_rfl
theorem k20 : (Rows.fnExactNearestOrderRow.ifacesOut == Tryd.f10.resultTypes.toList.any (Tryd.prog.ifacesRec ·)) = true := by kernel_rfl
theorem k21 : (Rows.fnExactNearestOrderRow.loopsOut == Tryd.f10.resultTypes.toList.any (Tryd.prog.loopsFrom ·)) = true := by kernel_rfl
theorem k23 : Rows.fnExactNearestOrderRow.shortTexts.isNone = true := by kernel_rfl
theorem k28 : facts.kindsOf Tryd.prog Tryd.f10 Rows.fnExactNearestOrderRow = true := by kernel_rfl
theorem k29 : (Rows.fnExactNearestOrderRow.pinned == Rows.fnExactNearestOrderRow.pinnedBy) = true := by kernel_rfl
theorem k30 : (Rows.fnExactNearestOrderRow.veiled == (Tryd.f10.params.toList ++ Rows.fnExactNearestOrderSpec.plain.varTypes Tryd.prog ++ Tryd.f10.resultTypes.toList).any (Tryd.prog.veiledRec ·)) = true := by kernel_rfl
theorem k31 : Rows.fnExactNearestOrderRow.veiledFits Tryd.prog Tryd.f10.params.toList (Tryd.f10.params.toList ++ Rows.fnExactNearestOrderSpec.plain.varTypes Tryd.prog ++ Tryd.f10.resultTypes.toList) = true := by kernel_rfl
theorem named : Tryd.pinned.checked.prog.funcNamed Rows.fnExactNearestOrderRow.func = some 10 := by kernel_rfl
theorem inst : decide (Tryd.f10.isInstance Tryd.prog Rows.fnExactNearestOrderRow.origin Rows.fnExactNearestOrderRow.targs) = true := by kernel_rfl
theorem stand : (Tryd.f10.params.toList.all fun u => !Tryd.prog.wantsStandIn u) = true := by kernel_rfl
theorem wft : Rows.fnExactNearestOrderRow.wfByText (OpenSpec.ofChange Rows.fnExactNearestOrderSpec) = true := by kernel_rfl
theorem goes : false = Rows.fnExactNearestOrderRow.goesBy Tryd.pinned.checked.prog := by kernel_rfl
end Go.Proofs.YtajhdgoinghmmaaDoor.lawNearestOrder
