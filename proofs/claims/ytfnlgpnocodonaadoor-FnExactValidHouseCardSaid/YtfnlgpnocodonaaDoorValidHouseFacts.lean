/-
  THE LAW FnExactValidHouse: the facts of its row, each one by itself.
-/
import Derived.Test.YtfnlgpnocodonaaDoorCards
import Derived.Test.YtfnlgpnocodonaaDoorTie
import Derived.Test.YtfnlgpnocodonaaDoorJoined
import Derived.ProofKit
namespace Go.Proofs.YtfnlgpnocodonaaDoor.lawValidHouse
open Go
theorem k0 : Rows.fnExactValidHouseRow.wf (OpenSpec.ofChange Rows.fnExactValidHouseSpec) = true := by kernel_rfl
theorem k3 : Tryd.f3.params.all (Tryd.prog.readableRec ·) = true := by kernel_rfl
theorem k4 : namedTie Tryd.prog Rows.fnExactValidHouseRow.named Rows.fnExactValidHouseSpec.vars = true := by kernel_rfl
theorem k5 : (Rows.fnExactValidHouseRow.stops == []) = true := by kernel_rfl
theorem k7 : (Rows.fnExactValidHouseRow.knobs == []) = true := by kernel_rfl
theorem k9 : (Rows.fnExactValidHouseRow.inPlace == Tryd.prog.inPlace 3) = true := by kernel_rfl
theorem k10 : (Rows.fnExactValidHouseRow.unfollowed == Tryd.prog.unfollowed 3) = true := by kernel_rfl
theorem k11 : (Rows.fnExactValidHouseRow.recurses == Tryd.prog.recurses 3) = true := by kernel_rfl
theorem k12 : (Rows.fnExactValidHouseRow.named == Tryd.prog.varsNamed 3) = true := by kernel_rfl
theorem k13 : (Rows.fnExactValidHouseRow.maps == (Tryd.f3.params.toList ++ Rows.fnExactValidHouseSpec.plain.varTypes Tryd.prog).any (Tryd.prog.mapsRec ·)) = true := by kernel_rfl
theorem k14 : (Rows.fnExactValidHouseRow.ifaces == (Tryd.f3.params.toList ++ Rows.fnExactValidHouseSpec.plain.varTypes Tryd.prog).any (Tryd.prog.ifacesRec ·)) = true := by kernel_rfl
theorem k15 : (Rows.fnExactValidHouseRow.mapsOut == Tryd.prog.mapsAmong Tryd.f3.resultTypes.toList) = true := by kernel_rfl
theorem k16 : (Rows.fnExactValidHouseRow.loops == (Tryd.f3.params.toList ++ Rows.fnExactValidHouseSpec.plain.varTypes Tryd.prog).any (Tryd.prog.loopsFrom ·)) = true := by kernel_rfl
theorem k17 : (Rows.fnExactValidHouseRow.wideKeys == (Tryd.f3.params.toList ++ Rows.fnExactValidHouseSpec.plain.varTypes Tryd.prog ++ Tryd.f3.resultTypes.toList).any (Tryd.prog.wideKeysFrom ·)) = true := by kernel_rfl
theorem k18 : Rows.fnExactValidHouseSpec.vars.all (Tryd.prog.varReadable ·) = true := by kernel_rfl
theorem k19 : Tryd.f3.resultTypes.all (fun t => Tryd.prog.readableRec t && decide (t < Tryd.prog.types.size)) = true := by kernel_rfl
theorem k20 : (Rows.fnExactValidHouseRow.ifacesOut == Tryd.f3.resultTypes.toList.any (Tryd.prog.ifacesRec ·)) = true := by kernel_rfl
theorem k21 : (Rows.fnExactValidHouseRow.loopsOut == Tryd.f3.resultTypes.toList.any (Tryd.prog.loopsFrom ·)) = true := by kernel_rfl
theorem k23 : Rows.fnExactValidHouseRow.shortTexts.isNone = true := by kernel_rfl
theorem k28 : facts.kindsOf Tryd.prog Tryd.f3 Rows.fnExactValidHouseRow = true := by kernel_rfl
theorem k29 : (Rows.fnExactValidHouseRow.pinned == Rows.fnExactValidHouseRow.pinnedBy) = true := by kernel_rfl
theorem k30 : (Rows.fnExactValidHouseRow.veiled == (Tryd.f3.params.toList ++ Rows.fnExactValidHouseSpec.plain.varTypes Tryd.prog ++ Tryd.f3.resultTypes.toList).any (Tryd.prog.veiledRec ·)) = true := by kernel_rfl
theorem k31 : Rows.fnExactValidHouseRow.veiledFits Tryd.prog Tryd.f3.params.toList (Tryd.f3.params.toList ++ Rows.fnExactValidHouseSpec.plain.varTypes Tryd.prog ++ Tryd.f3.resultTypes.toList) = true := by kernel_rfl
theorem named : Tryd.pinned.checked.prog.funcNamed Rows.fnExactValidHouseRow.func = some 3 := by kernel_rfl
theorem inst : decide (Tryd.f3.isInstance Tryd.prog Rows.fnExactValidHouseRow.origin Rows.fnExactValidHouseRow.targs) = true := by kernel_rfl
theorem stand : (Tryd.f3.params.toList.all fun u => !Tryd.prog.wantsStandIn u) = true := by kernel_rfl
theorem wft : Rows.fnExactValidHouseRow.wfByText (OpenSpec.ofChange Rows.fnExactValidHouseSpec) = true := by kernel_rfl
theorem goes : false = Rows.fnExactValidHouseRow.goesBy Tryd.pinned.checked.prog := by kernel_rfl
end Go.Proofs.YtfnlgpnocodonaaDoor.lawValidHouse
