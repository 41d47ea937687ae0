/-
  THE LAW FnExactRisingOrder: the facts of its row, each one by itself.
-/
import Derived.Test.YtajhdgoinghmmaaDoorCards
import Derived.Test.YtajhdgoinghmmaaDoorTie
import Derived.Test.YtajhdgoinghmmaaDoorJoined
import Derived.ProofKit
namespace Go.Proofs.YtajhdgoinghmmaaDoor.lawRisingOrder
open Go
theorem k0 : Rows.fnExactRisingOrderRow.wf (OpenSpec.ofChange Rows.fnExactRisingOrderSpec) = true := by kernel_rfl
theorem k3 : Tryd.f8.params.all (Tryd.prog.readableRec ·) = true := by kernel_rfl
theorem k4 : namedTie Tryd.prog Rows.fnExactRisingOrderRow.named Rows.fnExactRisingOrderSpec.vars = true := by kernel_rfl
theorem k5 : (Rows.fnExactRisingOrderRow.stops == []) = true := by kernel_rfl
theorem k7 : (Rows.fnExactRisingOrderRow.knobs == []) = true := by kernel_rfl
theorem k9 : (Rows.fnExactRisingOrderRow.inPlace == Tryd.prog.inPlace 8) = true := by kernel_rfl
theorem k10 : (Rows.fnExactRisingOrderRow.unfollowed == Tryd.prog.unfollowed 8) = true := by kernel_rfl
theorem k11 : (Rows.fnExactRisingOrderRow.recurses == Tryd.prog.recurses 8) = true := by kernel_rfl
theorem k12 : (Rows.fnExactRisingOrderRow.named == Tryd.prog.varsNamed 8) = true := by kernel_rfl
theorem k13 : (Rows.fnExactRisingOrderRow.maps == (Tryd.f8.params.toList ++ Rows.fnExactRisingOrderSpec.plain.varTypes Tryd.prog).any (Tryd.prog.mapsRec ·)) = true := by kernel_rfl
theorem k14 : (Rows.fnExactRisingOrderRow.ifaces == (Tryd.f8.params.toList ++ Rows.fnExactRisingOrderSpec.plain.varTypes Tryd.prog).any (Tryd.prog.ifacesRec ·)) = true := by kernel_rfl
theorem k15 : (Rows.fnExactRisingOrderRow.mapsOut == Tryd.prog.mapsAmong Tryd.f8.resultTypes.toList) = true := by kernel_rfl
theorem k16 : (Rows.fnExactRisingOrderRow.loops == (Tryd.f8.params.toList ++ Rows.fnExactRisingOrderSpec.plain.varTypes Tryd.prog).any (Tryd.prog.loopsFrom ·)) = true := by kernel_rfl
theorem k17 : (Rows.fnExactRisingOrderRow.wideKeys == (Tryd.f8.params.toList ++ Rows.fnExactRisingOrderSpec.plain.varTypes Tryd.prog ++ Tryd.f8.resultTypes.toList).any (Tryd.prog.wideKeysFrom ·)) = true := by kernel_rfl
theorem k18 : Rows.fnExactRisingOrderSpec.vars.all (Tryd.prog.varReadable ·) = true := by kernel_rfl
theorem k19 : Tryd.f8.resultTypes.all (fun t => Tryd.prog.readableRec t && decide (t < Tryd.prog.types.size)) = true := by kernel_rfl
theorem k20 : (Rows.fnExactRisingOrderRow.ifacesOut == Tryd.f8.resultTypes.toList.any (Tryd.prog.ifacesRec ·)) = true := by kernel_rfl
theorem k21 : (Rows.fnExactRisingOrderRow.loopsOut == Tryd.f8.resultTypes.toList.any (Tryd.prog.loopsFrom ·)) = true := by kernel_rfl
theorem k23 : Rows.fnExactRisingOrderRow.shortTexts.isNone = true := by kernel_rfl
theorem k28 : facts.kindsOf Tryd.prog Tryd.f8 Rows.fnExactRisingOrderRow = true := by kernel_rfl
theorem k29 : (Rows.fnExactRisingOrderRow.pinned == Rows.fnExactRisingOrderRow.pinnedBy) = true := by kernel_rfl
theorem k30 : (Rows.fnExactRisingOrderRow.veiled == (Tryd.f8.params.toList ++ Rows.fnExactRisingOrderSpec.plain.varTypes Tryd.prog ++ Tryd.f8.resultTypes.toList).any (Tryd.prog.veiledRec ·)) = true := by kernel_rfl
theorem k31 : Rows.fnExactRisingOrderRow.veiledFits Tryd.prog Tryd.f8.params.toList (Tryd.f8.params.toList ++ Rows.fnExactRisingOrderSpec.plain.varTypes Tryd.prog ++ Tryd.f8.resultTypes.toList) = true := by kernel_rfl
theorem named : Tryd.pinned.checked.prog.funcNamed Rows.fnExactRisingOrderRow.func = some 8 := by kernel_rfl
theorem inst : decide (Tryd.f8.isInstance Tryd.prog Rows.fnExactRisingOrderRow.origin Rows.fnExactRisingOrderRow.targs) = true := by kernel_rfl
theorem stand : (Tryd.f8.params.toList.all fun u => !Tryd.prog.wantsStandIn u) = true := by kernel_rfl
theorem wft : Rows.fnExactRisingOrderRow.wfByText (OpenSpec.ofChange Rows.fnExactRisingOrderSpec) = true := by kernel_rfl
theorem goes : false = Rows.fnExactRisingOrderRow.goesBy Tryd.pinned.checked.prog := by kernel_rfl
end Go.Proofs.YtajhdgoinghmmaaDoor.lawRisingOrder
