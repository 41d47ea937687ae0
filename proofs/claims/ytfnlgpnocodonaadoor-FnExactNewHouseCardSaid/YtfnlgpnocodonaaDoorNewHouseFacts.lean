/-
  THE LAW FnExactNewHouse: the facts of its row, each one by itself.
-/
import Derived.Test.YtfnlgpnocodonaaDoorCards
import Derived.Test.YtfnlgpnocodonaaDoorTie
import Derived.Test.YtfnlgpnocodonaaDoorJoined
import Derived.ProofKit
namespace Go.Proofs.YtfnlgpnocodonaaDoor.lawNewHouse
open Go
theorem k0 : Rows.fnExactNewHouseRow.wf (OpenSpec.ofChange Rows.fnExactNewHouseSpec) = true := by kernel_rfl
theorem k3 : Tryd.f5.params.all (Tryd.prog.readableRec ·) = true := by kernel_rfl
theorem k4 : namedTie Tryd.prog Rows.fnExactNewHouseRow.named Rows.fnExactNewHouseSpec.vars = true := by kernel_rfl
theorem k5 : (Rows.fnExactNewHouseRow.stops == []) = true := by kernel_rfl
theorem k7 : (Rows.fnExactNewHouseRow.knobs == []) = true := by kernel_rfl
theorem k9 : (Rows.fnExactNewHouseRow.inPlace == Tryd.prog.inPlace 5) = true := by kernel_rfl
theorem k10 : (Rows.fnExactNewHouseRow.unfollowed == Tryd.prog.unfollowed 5) = true := by kernel_rfl
theorem k11 : (Rows.fnExactNewHouseRow.recurses == Tryd.prog.recurses 5) = true := by kernel_rfl
theorem k12 : (Rows.fnExactNewHouseRow.named == Tryd.prog.varsNamed 5) = true := by kernel_rfl
theorem k13 : (Rows.fnExactNewHouseRow.maps == (Tryd.f5.params.toList ++ Rows.fnExactNewHouseSpec.plain.varTypes Tryd.prog).any (Tryd.prog.mapsRec ·)) = true := by kernel_rfl
theorem k14 : (Rows.fnExactNewHouseRow.ifaces == (Tryd.f5.params.toList ++ Rows.fnExactNewHouseSpec.plain.varTypes Tryd.prog).any (Tryd.prog.ifacesRec ·)) = true := by kernel_rfl
theorem k15 : (Rows.fnExactNewHouseRow.mapsOut == Tryd.prog.mapsAmong Tryd.f5.resultTypes.toList) = true := by kernel_rfl
theorem k16 : (Rows.fnExactNewHouseRow.loops == (Tryd.f5.params.toList ++ Rows.fnExactNewHouseSpec.plain.varTypes Tryd.prog).any (Tryd.prog.loopsFrom ·)) = true := by kernel_rfl
theorem k17 : (Rows.fnExactNewHouseRow.wideKeys == (Tryd.f5.params.toList ++ Rows.fnExactNewHouseSpec.plain.varTypes Tryd.prog ++ Tryd.f5.resultTypes.toList).any (Tryd.prog.wideKeysFrom ·)) = true := by kernel_rfl
theorem k18 : Rows.fnExactNewHouseSpec.vars.all (Tryd.prog.varReadable ·) = true := by kernel_rfl
theorem k19 : Tryd.f5.resultTypes.all (fun t => Tryd.prog.readableRec t && decide (t < Tryd.prog.types.size)) = true := by kernel_rfl
theorem k20 : (Rows.fnExactNewHouseRow.ifacesOut == Tryd.f5.resultTypes.toList.any (Tryd.prog.ifacesRec ·)) = true := by kernel_rfl
theorem k21 : (Rows.fnExactNewHouseRow.loopsOut == Tryd.f5.resultTypes.toList.any (Tryd.prog.loopsFrom ·)) = true := by kernel_rfl
theorem k23 : Rows.fnExactNewHouseRow.shortTexts.isNone = true := by kernel_rfl
theorem k28 : facts.kindsOf Tryd.prog Tryd.f5 Rows.fnExactNewHouseRow = true := by kernel_rfl
theorem k29 : (Rows.fnExactNewHouseRow.pinned == Rows.fnExactNewHouseRow.pinnedBy) = true := by kernel_rfl
theorem k30 : (Rows.fnExactNewHouseRow.veiled == (Tryd.f5.params.toList ++ Rows.fnExactNewHouseSpec.plain.varTypes Tryd.prog ++ Tryd.f5.resultTypes.toList).any (Tryd.prog.veiledRec ·)) = true := by kernel_rfl
theorem k31 : Rows.fnExactNewHouseRow.veiledFits Tryd.prog Tryd.f5.params.toList (Tryd.f5.params.toList ++ Rows.fnExactNewHouseSpec.plain.varTypes Tryd.prog ++ Tryd.f5.resultTypes.toList) = true := by kernel_rfl
theorem named : Tryd.pinned.checked.prog.funcNamed Rows.fnExactNewHouseRow.func = some 5 := by kernel_rfl
theorem inst : decide (Tryd.f5.isInstance Tryd.prog Rows.fnExactNewHouseRow.origin Rows.fnExactNewHouseRow.targs) = true := by kernel_rfl
theorem stand : (Tryd.f5.params.toList.all fun u => !Tryd.prog.wantsStandIn u) = true := by kernel_rfl
theorem wft : Rows.fnExactNewHouseRow.wfByText (OpenSpec.ofChange Rows.fnExactNewHouseSpec) = true := by kernel_rfl
theorem goes : false = Rows.fnExactNewHouseRow.goesBy Tryd.pinned.checked.prog := by kernel_rfl
end Go.Proofs.YtfnlgpnocodonaaDoor.lawNewHouse
