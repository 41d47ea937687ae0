/-
  THE LAW FnExactDueOrder: the facts of its row, each one by itself.
-/
import Derived.Test.YtajhdgoinghmmaaDoorCards
import Derived.Test.YtajhdgoinghmmaaDoorTie
import Derived.Test.YtajhdgoinghmmaaDoorJoined
import Derived.ProofKit
namespace Go.Proofs.YtajhdgoinghmmaaDoor.lawDueOrder
open Go
theorem k0 : Rows.fnExactDueOrderRow.wf (OpenSpec.ofChange Rows.fnExactDueOrderSpec) = true := by kernel_rfl
theorem k3 : Tryd.f9.params.all (Tryd.prog.readableRec ·) = true := by kernel_rfl
theorem k4 : namedTie Tryd.prog Rows.fnExactDueOrderRow.named Rows.fnExactDueOrderSpec.vars = true := by kernel_rfl
theorem k5 : (Rows.fnExactDueOrderRow.stops == []) = true := by kernel_rfl
theorem k7 : (Rows.fnExactDueOrderRow.knobs == []) = true := by kernel_rfl
theorem k9 : (Rows.fnExactDueOrderRow.inPlace == Tryd.prog.inPlace 9) = true := by kernel_rfl
theorem k10 : (Rows.fnExactDueOrderRow.unfollowed == Tryd.prog.unfollowed 9) = true := by kernel_rfl
theorem k11 : (Rows.fnExactDueOrderRow.recurses == Tryd.prog.recurses 9) = true := by kernel_rfl
theorem k12 : (Rows.fnExactDueOrderRow.named == Tryd.prog.varsNamed 9) = true := by kernel_rfl
theorem k13 : (Rows.fnExactDueOrderRow.maps == (Tryd.f9.params.toList ++ Rows.fnExactDueOrderSpec.plain.varTypes Tryd.prog).any (Tryd.prog.mapsRec ·)) = true := by kernel_rfl
theorem k14 : (Rows.fnExactDueOrderRow.ifaces == (Tryd.f9.params.toList ++ Rows.fnExactDueOrderSpec.plain.varTypes Tryd.prog).any (Tryd.prog.ifacesRec ·)) = true := by kernel_rfl
theorem k15 : (Rows.fnExactDueOrderRow.mapsOut == Tryd.prog.mapsAmong Tryd.f9.resultTypes.toList) = true := by kernel_rfl
theorem k16 : (Rows.fnExactDueOrderRow.loops == (Tryd.f9.params.toList ++ Rows.fnExactDueOrderSpec.plain.varTypes Tryd.prog).any (Tryd.prog.loopsFrom ·)) = true := by kernel_rfl
theorem k17 : (Rows.fnExactDueOrderRow.wideKeys == (Tryd.f9.params.toList ++ Rows.fnExactDueOrderSpec.plain.varTypes Tryd.prog ++ Tryd.f9.resultTypes.toList).any (Tryd.prog.wideKeysFrom ·)) = true := by kernel_rfl
theorem k18 : Rows.fnExactDueOrderSpec.vars.all (Tryd.prog.varReadable ·) = true := by kernel_rfl
theorem k19 : Tryd.f9.resultTypes.all (fun t => Tryd.prog.readableRec t && decide (t < Tryd.prog.types.size)) = true := by kernel_rfl
theorem k20 : (Rows.fnExactDueOrderRow.ifacesOut == Tryd.f9.resultTypes.toList.any (Tryd.prog.ifacesRec ·)) = true := by kernel_rfl
theorem k21 : (Rows.fnExactDueOrderRow.loopsOut == Tryd.f9.resultTypes.toList.any (Tryd.prog.loopsFrom ·)) = true := by kernel_rfl
theorem k23 : Rows.fnExactDueOrderRow.shortTexts.isNone = true := by kernel_rfl
theorem k28 : facts.kindsOf Tryd.prog Tryd.f9 Rows.fnExactDueOrderRow = true := by kernel_rfl
theorem k29 : (Rows.fnExactDueOrderRow.pinned == Rows.fnExactDueOrderRow.pinnedBy) = true := by kernel_rfl
theorem k30 : (Rows.fnExactDueOrderRow.veiled == (Tryd.f9.params.toList ++ Rows.fnExactDueOrderSpec.plain.varTypes Tryd.prog ++ Tryd.f9.resultTypes.toList).any (Tryd.prog.veiledRec ·)) = true := by kernel_rfl
theorem k31 : Rows.fnExactDueOrderRow.veiledFits Tryd.prog Tryd.f9.params.toList (Tryd.f9.params.toList ++ Rows.fnExactDueOrderSpec.plain.varTypes Tryd.prog ++ Tryd.f9.resultTypes.toList) = true := by kernel_rfl
theorem named : Tryd.pinned.checked.prog.funcNamed Rows.fnExactDueOrderRow.func = some 9 := by kernel_rfl
theorem inst : decide (Tryd.f9.isInstance Tryd.prog Rows.fnExactDueOrderRow.origin Rows.fnExactDueOrderRow.targs) = true := by kernel_rfl
theorem stand : (Tryd.f9.params.toList.all fun u => !Tryd.prog.wantsStandIn u) = true := by kernel_rfl
theorem wft : Rows.fnExactDueOrderRow.wfByText (OpenSpec.ofChange Rows.fnExactDueOrderSpec) = true := by kernel_rfl
theorem goes : false = Rows.fnExactDueOrderRow.goesBy Tryd.pinned.checked.prog := by kernel_rfl
end Go.Proofs.YtajhdgoinghmmaaDoor.lawDueOrder
