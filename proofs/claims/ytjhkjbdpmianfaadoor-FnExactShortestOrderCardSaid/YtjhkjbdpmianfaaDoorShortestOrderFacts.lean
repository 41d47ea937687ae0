/-
  THE LAW FnExactShortestOrder: the facts of its row, each one by itself.
-/
import Derived.Test.YtjhkjbdpmianfaaDoorCards
import Derived.Test.YtjhkjbdpmianfaaDoorTie
import Derived.Test.YtjhkjbdpmianfaaDoorJoined
import Derived.ProofKit
namespace Go.Proofs.YtjhkjbdpmianfaaDoor.lawShortestOrder
open Go
theorem k0 : Rows.fnExactShortestOrderRow.wf (OpenSpec.ofChange Rows.fnExactShortestOrderSpec) = true := by kernel_rfl
theorem k3 : Tryd.f3.params.all (Tryd.prog.readableRec ·) = true := by kernel_rfl
theorem k4 : namedTie Tryd.prog Rows.fnExactShortestOrderRow.named Rows.fnExactShortestOrderSpec.vars = true := by kernel_rfl
theorem k5 : (Rows.fnExactShortestOrderRow.stops == []) = true := by kernel_rfl
theorem k7 : (Rows.fnExactShortestOrderRow.knobs == []) = true := by kernel_rfl
theorem k9 : (Rows.fnExactShortestOrderRow.inPlace == Tryd.prog.inPlace 3) = true := by kernel_rfl
theorem k10 : (Rows.fnExactShortestOrderRow.unfollowed == Tryd.prog.unfollowed 3) = true := by kernel_rfl
theorem k11 : (Rows.fnExactShortestOrderRow.recurses == Tryd.prog.recurses 3) = true := by kernel_rfl
theorem k12 : (Rows.fnExactShortestOrderRow.named == Tryd.prog.varsNamed 3) = true := by kernel_rfl
theorem k13 : (Rows.fnExactShortestOrderRow.maps == (Tryd.f3.params.toList ++ Rows.fnExactShortestOrderSpec.plain.varTypes Tryd.prog).any (Tryd.prog.mapsRec ·)) = true := by kernel_rfl
theorem k14 : (Rows.fnExactShortestOrderRow.ifaces == (Tryd.f3.params.toList ++ Rows.fnExactShortestOrderSpec.plain.varTypes Tryd.prog).any (Tryd.prog.ifacesRec ·)) = true := by kernel_rfl
theorem k15 : (Rows.fnExactShortestOrderRow.mapsOut == Tryd.prog.mapsAmong Tryd.f3.resultTypes.toList) = true := by kernel_rfl
theorem k16 : (Rows.fnExactShortestOrderRow.loops == (Tryd.f3.params.toList ++ Rows.fnExactShortestOrderSpec.plain.varTypes Tryd.prog).any (Tryd.prog.loopsFrom ·)) = true := by kernel_rfl
theorem k17 : (Rows.fnExactShortestOrderRow.wideKeys == (Tryd.f3.params.toList ++ Rows.fnExactShortestOrderSpec.plain.varTypes Tryd.prog ++ Tryd.f3.resultTypes.toList).any (Tryd.prog.wideKeysFrom ·)) = true := by kernel_rfl
theorem k18 : Rows.fnExactShortestOrderSpec.vars.all (Tryd.prog.varReadable ·) = true := by kernel_rfl
theorem k19 : Tryd.f3.resultTypes.all (fun t => Tryd.prog.readableRec t && decide (t < Tryd.prog.types.size)) = true := by kernel_rfl
theorem k20 : (Rows.fnExactShortestOrderRow.ifacesOut == Tryd.f3.resultTypes.toList.any (Tryd.prog.ifacesRec ·)) = true := by kernel_rfl
theorem k21 : (Rows.fnExactShortestOrderRow.loopsOut == Tryd.f3.resultTypes.toList.any (Tryd.prog.loopsFrom ·)) = true := by kernel_rfl
theorem k23 : Rows.fnExactShortestOrderRow.shortTexts.isNone = true := by kernel_rfl
theorem k28 : facts.kindsOf Tryd.prog Tryd.f3 Rows.fnExactShortestOrderRow = true := by kernel_rfl
theorem k29 : (Rows.fnExactShortestOrderRow.pinned == Rows.fnExactShortestOrderRow.pinnedBy) = true := by kernel_rfl
theorem k30 : (Rows.fnExactShortestOrderRow.veiled == (Tryd.f3.params.toList ++ Rows.fnExactShortestOrderSpec.plain.varTypes Tryd.prog ++ Tryd.f3.resultTypes.toList).any (Tryd.prog.veiledRec ·)) = true := by kernel_rfl
theorem k31 : Rows.fnExactShortestOrderRow.veiledFits Tryd.prog Tryd.f3.params.toList (Tryd.f3.params.toList ++ Rows.fnExactShortestOrderSpec.plain.varTypes Tryd.prog ++ Tryd.f3.resultTypes.toList) = true := by kernel_rfl
theorem named : Tryd.pinned.checked.prog.funcNamed Rows.fnExactShortestOrderRow.func = some 3 := by kernel_rfl
theorem inst : decide (Tryd.f3.isInstance Tryd.prog Rows.fnExactShortestOrderRow.origin Rows.fnExactShortestOrderRow.targs) = true := by kernel_rfl
theorem stand : (Tryd.f3.params.toList.all fun u => !Tryd.prog.wantsStandIn u) = true := by kernel_rfl
theorem wft : Rows.fnExactShortestOrderRow.wfByText (OpenSpec.ofChange Rows.fnExactShortestOrderSpec) = true := by kernel_rfl
theorem goes : false = Rows.fnExactShortestOrderRow.goesBy Tryd.pinned.checked.prog := by kernel_rfl
end Go.Proofs.YtjhkjbdpmianfaaDoor.lawShortestOrder
