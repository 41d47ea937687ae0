/-
  THE LAW FnExactHouseText: the facts of its row, each one by itself.
-/
import Derived.Test.YtjfimmfnhlimkaaDoorCards
import Derived.Test.YtjfimmfnhlimkaaDoorTie
import Derived.Test.YtjfimmfnhlimkaaDoorJoined
import Derived.ProofKit
namespace Go.Proofs.YtjfimmfnhlimkaaDoor.lawHouseText
open Go
theorem k0 : Rows.fnExactHouseTextRow.wf (OpenSpec.ofChange Rows.fnExactHouseTextSpec) = true := by kernel_rfl
theorem k3 : Tryd.f11.params.all (Tryd.prog.readableRec ·) = true := by kernel_rfl
theorem k4 : namedTie Tryd.prog Rows.fnExactHouseTextRow.named Rows.fnExactHouseTextSpec.vars = true := by kernel_rfl
theorem k5 : (Rows.fnExactHouseTextRow.stops == []) = true := by kernel_rfl
theorem k7 : (Rows.fnExactHouseTextRow.knobs == []) = true := by kernel_rfl
theorem k9 : (Rows.fnExactHouseTextRow.inPlace == Tryd.prog.inPlace 11) = true := by kernel_rfl
theorem k10 : (Rows.fnExactHouseTextRow.unfollowed == Tryd.prog.unfollowed 11) = true := by kernel_rfl
theorem k11 : (Rows.fnExactHouseTextRow.recurses == Tryd.prog.recurses 11) = true := by kernel_rfl
theorem k12 : (Rows.fnExactHouseTextRow.named == Tryd.prog.varsNamed 11) = true := by kernel_rfl
theorem k13 : (Rows.fnExactHouseTextRow.maps == (Tryd.f11.params.toList ++ Rows.fnExactHouseTextSpec.plain.varTypes Tryd.prog).any (Tryd.prog.mapsRec ·)) = true := by kernel_rfl
theorem k14 : (Rows.fnExactHouseTextRow.ifaces == (Tryd.f11.params.toList ++ Rows.fnExactHouseTextSpec.plain.varTypes Tryd.prog).any (Tryd.prog.ifacesRec ·)) = true := by kernel_rfl
theorem k15 : (Rows.fnExactHouseTextRow.mapsOut == Tryd.prog.mapsAmong Tryd.f11.resultTypes.toList) = true := by kernel_rfl
theorem k16 : (Rows.fnExactHouseTextRow.loops == (Tryd.f11.params.toList ++ Rows.fnExactHouseTextSpec.plain.varTypes Tryd.prog).any (Tryd.prog.loopsFrom ·)) = true := by kernel_rfl
theorem k17 : (Rows.fnExactHouseTextRow.wideKeys == (Tryd.f11.params.toList ++ Rows.fnExactHouseTextSpec.plain.varTypes Tryd.prog ++ Tryd.f11.resultTypes.toList).any (Tryd.prog.wideKeysFrom ·)) = true := by kernel_rfl
theorem k18 : Rows.fnExactHouseTextSpec.vars.all (Tryd.prog.varReadable ·) = true := by kernel_rfl
theorem k19 : Tryd.f11.resultTypes.all (fun t => Tryd.prog.readableRec t && decide (t < Tryd.prog.types.size)) = true := by kernel_rfl
theorem k20 : (Rows.fnExactHouseTextRow.ifacesOut == Tryd.f11.resultTypes.toList.any (Tryd.prog.ifacesRec ·)) = true := by kernel_rfl
theorem k21 : (Rows.fnExactHouseTextRow.loopsOut == Tryd.f11.resultTypes.toList.any (Tryd.prog.loopsFrom ·)) = true := by kernel_rfl
theorem k23 : Rows.fnExactHouseTextRow.shortTexts.isNone = true := by kernel_rfl
theorem k28 : facts.kindsOf Tryd.prog Tryd.f11 Rows.fnExactHouseTextRow = true := by kernel_rfl
theorem k29 : (Rows.fnExactHouseTextRow.pinned == Rows.fnExactHouseTextRow.pinnedBy) = true := by kernel_rfl
theorem k30 : (Rows.fnExactHouseTextRow.veiled == (Tryd.f11.params.toList ++ Rows.fnExactHouseTextSpec.plain.varTypes Tryd.prog ++ Tryd.f11.resultTypes.toList).any (Tryd.prog.veiledRec ·)) = true := by kernel_rfl
theorem k31 : Rows.fnExactHouseTextRow.veiledFits Tryd.prog Tryd.f11.params.toList (Tryd.f11.params.toList ++ Rows.fnExactHouseTextSpec.plain.varTypes Tryd.prog ++ Tryd.f11.resultTypes.toList) = true := by kernel_rfl
theorem named : Tryd.pinned.checked.prog.funcNamed Rows.fnExactHouseTextRow.func = some 11 := by kernel_rfl
theorem inst : decide (Tryd.f11.isInstance Tryd.prog Rows.fnExactHouseTextRow.origin Rows.fnExactHouseTextRow.targs) = true := by kernel_rfl
theorem stand : (Tryd.f11.params.toList.all fun u => !Tryd.prog.wantsStandIn u) = true := by kernel_rfl
theorem wft : Rows.fnExactHouseTextRow.wfByText (OpenSpec.ofChange Rows.fnExactHouseTextSpec) = true := by kernel_rfl
theorem goes : false = Rows.fnExactHouseTextRow.goesBy Tryd.pinned.checked.prog := by kernel_rfl
end Go.Proofs.YtjfimmfnhlimkaaDoor.lawHouseText
