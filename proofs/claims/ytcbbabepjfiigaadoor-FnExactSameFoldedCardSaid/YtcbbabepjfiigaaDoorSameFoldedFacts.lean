/-
  THE LAW FnExactSameFolded: the facts of its row, each one by itself.
-/
import Derived.Test.YtcbbabepjfiigaaDoorCards
import Derived.Test.YtcbbabepjfiigaaDoorTie
import Derived.Test.YtcbbabepjfiigaaDoorJoined
import Derived.ProofKit
namespace Go.Proofs.YtcbbabepjfiigaaDoor.lawSameFolded
open Go
theorem k0 : Rows.fnExactSameFoldedRow.wf (OpenSpec.ofChange Rows.fnExactSameFoldedSpec) = true := by kernel_rfl
theorem k3 : Tryd.f10.params.all (Tryd.prog.readableRec ·) = true := by kernel_rfl
theorem k4 : namedTie Tryd.prog Rows.fnExactSameFoldedRow.named Rows.fnExactSameFoldedSpec.vars = true := by kernel_rfl
theorem k5 : (Rows.fnExactSameFoldedRow.stops == []) = true := by kernel_rfl
theorem k7 : (Rows.fnExactSameFoldedRow.knobs == []) = true := by kernel_rfl
theorem k9 : (Rows.fnExactSameFoldedRow.inPlace == Tryd.prog.inPlace 10) = true := by kernel_rfl
theorem k10 : (Rows.fnExactSameFoldedRow.unfollowed == Tryd.prog.unfollowed 10) = true := by kernel_rfl
theorem k11 : (Rows.fnExactSameFoldedRow.recurses == Tryd.prog.recurses 10) = true := by kernel_rfl
theorem k12 : (Rows.fnExactSameFoldedRow.named == Tryd.prog.varsNamed 10) = true := by kernel_rfl
theorem k13 : (Rows.fnExactSameFoldedRow.maps == (Tryd.f10.params.toList ++ Rows.fnExactSameFoldedSpec.plain.varTypes Tryd.prog).any (Tryd.prog.mapsRec ·)) = true := by kernel_rfl
theorem k14 : (Rows.fnExactSameFoldedRow.ifaces == (Tryd.f10.params.toList ++ Rows.fnExactSameFoldedSpec.plain.varTypes Tryd.prog).any (Tryd.prog.ifacesRec ·)) = true := by kernel_rfl
theorem k15 : (Rows.fnExactSameFoldedRow.mapsOut == Tryd.prog.mapsAmong Tryd.f10.resultTypes.toList) = true := by kernel_rfl
theorem k16 : (Rows.fnExactSameFoldedRow.loops == (Tryd.f10.params.toList ++ Rows.fnExactSameFoldedSpec.plain.varTypes Tryd.prog).any (Tryd.prog.loopsFrom ·)) = true := by kernel_rfl
theorem k17 : (Rows.fnExactSameFoldedRow.wideKeys == (Tryd.f10.params.toList ++ Rows.fnExactSameFoldedSpec.plain.varTypes Tryd.prog ++ Tryd.f10.resultTypes.toList).any (Tryd.prog.wideKeysFrom ·)) = true := by kernel_rfl
theorem k18 : Rows.fnExactSameFoldedSpec.vars.all (Tryd.prog.varReadable ·) = true := by kernel_rfl
theorem k19 : Tryd.f10.resultTypes.all (fun t => Tryd.prog.readableRec t && decide (t < Tryd.prog.types.size)) = true := by kernel_rfl
theorem k20 : (Rows.fnExactSameFoldedRow.ifacesOut == Tryd.f10.resultTypes.toList.any (Tryd.prog.ifacesRec ·)) = true := by kernel_rfl
theorem k21 : (Rows.fnExactSameFoldedRow.loopsOut == Tryd.f10.resultTypes.toList.any (Tryd.prog.loopsFrom ·)) = true := by kernel_rfl
theorem k23 : Rows.fnExactSameFoldedRow.shortTexts.isNone = true := by kernel_rfl
theorem k28 : facts.kindsOf Tryd.prog Tryd.f10 Rows.fnExactSameFoldedRow = true := by kernel_rfl
theorem k29 : (Rows.fnExactSameFoldedRow.pinned == Rows.fnExactSameFoldedRow.pinnedBy) = true := by kernel_rfl
theorem k30 : (Rows.fnExactSameFoldedRow.veiled == (Tryd.f10.params.toList ++ Rows.fnExactSameFoldedSpec.plain.varTypes Tryd.prog ++ Tryd.f10.resultTypes.toList).any (Tryd.prog.veiledRec ·)) = true := by kernel_rfl
theorem k31 : Rows.fnExactSameFoldedRow.veiledFits Tryd.prog Tryd.f10.params.toList (Tryd.f10.params.toList ++ Rows.fnExactSameFoldedSpec.plain.varTypes Tryd.prog ++ Tryd.f10.resultTypes.toList) = true := by kernel_rfl
theorem named : Tryd.pinned.checked.prog.funcNamed Rows.fnExactSameFoldedRow.func = some 10 := by kernel_rfl
theorem inst : decide (Tryd.f10.isInstance Tryd.prog Rows.fnExactSameFoldedRow.origin Rows.fnExactSameFoldedRow.targs) = true := by kernel_rfl
theorem stand : (Tryd.f10.params.toList.all fun u => !Tryd.prog.wantsStandIn u) = true := by kernel_rfl
theorem wft : Rows.fnExactSameFoldedRow.wfByText (OpenSpec.ofChange Rows.fnExactSameFoldedSpec) = true := by kernel_rfl
theorem goes : false = Rows.fnExactSameFoldedRow.goesBy Tryd.pinned.checked.prog := by kernel_rfl
end Go.Proofs.YtcbbabepjfiigaaDoor.lawSameFolded
