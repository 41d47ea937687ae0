/-
  THE LAW FnExactLastsFor: the facts of its row, each one by itself.
-/
import Derived.Test.YtdcckdfemelbiaaDoorCards
import Derived.Test.YtdcckdfemelbiaaDoorTie
import Derived.Test.YtdcckdfemelbiaaDoorJoined
import Derived.ProofKit
namespace Go.Proofs.YtdcckdfemelbiaaDoor.lawLastsFor
open Go
theorem k0 : Rows.fnExactLastsForRow.wf (OpenSpec.ofChange Rows.fnExactLastsForSpec) = true := by kernel_rfl
theorem k3 : Tryd.f15.params.all (Tryd.prog.readableRec ·) = true := by kernel_rfl
theorem k4 : namedTie Tryd.prog Rows.fnExactLastsForRow.named Rows.fnExactLastsForSpec.vars = true := by kernel_rfl
theorem k5 : (Rows.fnExactLastsForRow.stops == []) = true := by kernel_rfl
theorem k7 : (Rows.fnExactLastsForRow.knobs == []) = true := by kernel_rfl
theorem k9 : (Rows.fnExactLastsForRow.inPlace == Tryd.prog.inPlace 15) = true := by kernel_rfl
theorem k10 : (Rows.fnExactLastsForRow.unfollowed == Tryd.prog.unfollowed 15) = true := by kernel_rfl
theorem k11 : (Rows.fnExactLastsForRow.recurses == Tryd.prog.recurses 15) = true := by kernel_rfl
theorem k12 : (Rows.fnExactLastsForRow.named == Tryd.prog.varsNamed 15) = true := by kernel_rfl
theorem k13 : (Rows.fnExactLastsForRow.maps == (Tryd.f15.params.toList ++ Rows.fnExactLastsForSpec.plain.varTypes Tryd.prog).any (Tryd.prog.mapsRec ·)) = true := by kernel_rfl
theorem k14 : (Rows.fnExactLastsForRow.ifaces == (Tryd.f15.params.toList ++ Rows.fnExactLastsForSpec.plain.varTypes Tryd.prog).any (Tryd.prog.ifacesRec ·)) = true := by kernel_rfl
theorem k15 : (Rows.fnExactLastsForRow.mapsOut == Tryd.prog.mapsAmong Tryd.f15.resultTypes.toList) = true := by kernel_rfl
theorem k16 : (Rows.fnExactLastsForRow.loops == (Tryd.f15.params.toList ++ Rows.fnExactLastsForSpec.plain.varTypes Tryd.prog).any (Tryd.prog.loopsFrom ·)) = true := by kernel_rfl
theorem k17 : (Rows.fnExactLastsForRow.wideKeys == (Tryd.f15.params.toList ++ Rows.fnExactLastsForSpec.plain.varTypes Tryd.prog ++ Tryd.f15.resultTypes.toList).any (Tryd.prog.wideKeysFrom ·)) = true := by kernel_rfl
theorem k18 : Rows.fnExactLastsForSpec.vars.all (Tryd.prog.varReadable ·) = true := by kernel_rfl
theorem k19 : Tryd.f15.resultTypes.all (fun t => Tryd.prog.readableRec t && decide (t < Tryd.prog.types.size)) = true := by kernel_rfl
theorem k20 : (Rows.fnExactLastsForRow.ifacesOut == Tryd.f15.resultTypes.toList.any (Tryd.prog.ifacesRec ·)) = true := by kernel_rfl
theorem k21 : (Rows.fnExactLastsForRow.loopsOut == Tryd.f15.resultTypes.toList.any (Tryd.prog.loopsFrom ·)) = true := by kernel_rfl
theorem k23 : Rows.fnExactLastsForRow.shortTexts.isNone = true := by kernel_rfl
theorem k28 : facts.kindsOf Tryd.prog Tryd.f15 Rows.fnExactLastsForRow = true := by kernel_rfl
theorem k29 : (Rows.fnExactLastsForRow.pinned == Rows.fnExactLastsForRow.pinnedBy) = true := by kernel_rfl
theorem k30 : (Rows.fnExactLastsForRow.veiled == (Tryd.f15.params.toList ++ Rows.fnExactLastsForSpec.plain.varTypes Tryd.prog ++ Tryd.f15.resultTypes.toList).any (Tryd.prog.veiledRec ·)) = true := by kernel_rfl
theorem k31 : Rows.fnExactLastsForRow.veiledFits Tryd.prog Tryd.f15.params.toList (Tryd.f15.params.toList ++ Rows.fnExactLastsForSpec.plain.varTypes Tryd.prog ++ Tryd.f15.resultTypes.toList) = true := by kernel_rfl
theorem named : Tryd.pinned.checked.prog.funcNamed Rows.fnExactLastsForRow.func = some 15 := by kernel_rfl
theorem inst : decide (Tryd.f15.isInstance Tryd.prog Rows.fnExactLastsForRow.origin Rows.fnExactLastsForRow.targs) = true := by kernel_rfl
theorem stand : (Tryd.f15.params.toList.all fun u => !Tryd.prog.wantsStandIn u) = true := by kernel_rfl
theorem wft : Rows.fnExactLastsForRow.wfByText (OpenSpec.ofChange Rows.fnExactLastsForSpec) = true := by kernel_rfl
theorem goes : false = Rows.fnExactLastsForRow.goesBy Tryd.pinned.checked.prog := by kernel_rfl
end Go.Proofs.YtdcckdfemelbiaaDoor.lawLastsFor
