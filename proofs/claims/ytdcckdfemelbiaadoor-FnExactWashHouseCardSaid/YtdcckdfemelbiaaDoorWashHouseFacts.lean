/-
  THE LAW FnExactWashHouse: the facts of its row, each one by itself.
-/
import Derived.Test.YtdcckdfemelbiaaDoorCards
import Derived.Test.YtdcckdfemelbiaaDoorTie
import Derived.Test.YtdcckdfemelbiaaDoorJoined
import Derived.ProofKit
namespace Go.Proofs.YtdcckdfemelbiaaDoor.lawWashHouse
open Go
theorem k0 : Rows.fnExactWashHouseRow.wf (OpenSpec.ofChange Rows.fnExactWashHouseSpec) = true := by kernel_rfl
theorem k3 : Tryd.f9.params.all (Tryd.prog.readableRec ·) = true := by kernel_rfl
theorem k4 : namedTie Tryd.prog Rows.fnExactWashHouseRow.named Rows.fnExactWashHouseSpec.vars = true := by kernel_rfl
theorem k5 : (Rows.fnExactWashHouseRow.stops == []) = true := by kernel_rfl
theorem k7 : (Rows.fnExactWashHouseRow.knobs == []) = true := by kernel_rfl
theorem k9 : (Rows.fnExactWashHouseRow.inPlace == Tryd.prog.inPlace 9) = true := by kernel_rfl
theorem k10 : (Rows.fnExactWashHouseRow.unfollowed == Tryd.prog.unfollowed 9) = true := by kernel_rfl
theorem k11 : (Rows.fnExactWashHouseRow.recurses == Tryd.prog.recurses 9) = true := by kernel_rfl
theorem k12 : (Rows.fnExactWashHouseRow.named == Tryd.prog.varsNamed 9) = true := by kernel_rfl
theorem k13 : (Rows.fnExactWashHouseRow.maps == (Tryd.f9.params.toList ++ Rows.fnExactWashHouseSpec.plain.varTypes Tryd.prog).any (Tryd.prog.mapsRec ·)) = true := by kernel_rfl
theorem k14 : (Rows.fnExactWashHouseRow.ifaces == (Tryd.f9.params.toList ++ Rows.fnExactWashHouseSpec.plain.varTypes Tryd.prog).any (Tryd.prog.ifacesRec ·)) = true := by kernel_rfl
theorem k15 : (Rows.fnExactWashHouseRow.mapsOut == Tryd.prog.mapsAmong Tryd.f9.resultTypes.toList) = true := by kernel_rfl
theorem k16 : (Rows.fnExactWashHouseRow.loops == (Tryd.f9.params.toList ++ Rows.fnExactWashHouseSpec.plain.varTypes Tryd.prog).any (Tryd.prog.loopsFrom ·)) = true := by kernel_rfl
theorem k17 : (Rows.fnExactWashHouseRow.wideKeys == (Tryd.f9.params.toList ++ Rows.fnExactWashHouseSpec.plain.varTypes Tryd.prog ++ Tryd.f9.resultTypes.toList).any (Tryd.prog.wideKeysFrom ·)) = true := by kernel_rfl
theorem k18 : Rows.fnExactWashHouseSpec.vars.all (Tryd.prog.varReadable ·) = true := by kernel_rfl
theorem k19 : Tryd.f9.resultTypes.all (fun t => Tryd.prog.readableRec t && decide (t < Tryd.prog.types.size)) = true := by kernel_rfl
theorem k20 : (Rows.fnExactWashHouseRow.ifacesOut == Tryd.f9.resultTypes.toList.any (Tryd.prog.ifacesRec ·)) = true := by kernel_rfl
theorem k21 : (Rows.fnExactWashHouseRow.loopsOut == Tryd.f9.resultTypes.toList.any (Tryd.prog.loopsFrom ·)) = true := by kernel_rfl
theorem k23 : Rows.fnExactWashHouseRow.shortTexts.isNone = true := by kernel_rfl
theorem k28 : facts.kindsOf Tryd.prog Tryd.f9 Rows.fnExactWashHouseRow = true := by kernel_rfl
theorem k29 : (Rows.fnExactWashHouseRow.pinned == Rows.fnExactWashHouseRow.pinnedBy) = true := by kernel_rfl
theorem k30 : (Rows.fnExactWashHouseRow.veiled == (Tryd.f9.params.toList ++ Rows.fnExactWashHouseSpec.plain.varTypes Tryd.prog ++ Tryd.f9.resultTypes.toList).any (Tryd.prog.veiledRec ·)) = true := by kernel_rfl
theorem k31 : Rows.fnExactWashHouseRow.veiledFits Tryd.prog Tryd.f9.params.toList (Tryd.f9.params.toList ++ Rows.fnExactWashHouseSpec.plain.varTypes Tryd.prog ++ Tryd.f9.resultTypes.toList) = true := by kernel_rfl
theorem named : Tryd.pinned.checked.prog.funcNamed Rows.fnExactWashHouseRow.func = some 9 := by kernel_rfl
theorem inst : decide (Tryd.f9.isInstance Tryd.prog Rows.fnExactWashHouseRow.origin Rows.fnExactWashHouseRow.targs) = true := by kernel_rfl
theorem stand : (Tryd.f9.params.toList.all fun u => !Tryd.prog.wantsStandIn u) = true := by kernel_rfl
theorem wft : Rows.fnExactWashHouseRow.wfByText (OpenSpec.ofChange Rows.fnExactWashHouseSpec) = true := by kernel_rfl
theorem goes : false = Rows.fnExactWashHouseRow.goesBy Tryd.pinned.checked.prog := by kernel_rfl
end Go.Proofs.YtdcckdfemelbiaaDoor.lawWashHouse
