/-
  THE LAW FnExactEdgesAfter: the facts of its row, each one by itself.
-/
import Derived.Test.YtcbbabepjfiigaaDoorCards
import Derived.Test.YtcbbabepjfiigaaDoorTie
import Derived.Test.YtcbbabepjfiigaaDoorJoined
import Derived.ProofKit
namespace Go.Proofs.YtcbbabepjfiigaaDoor.lawEdgesAfter
open Go
theorem k0 : Rows.fnExactEdgesAfterRow.wf (OpenSpec.ofChange Rows.fnExactEdgesAfterSpec) = true := by kernel_rfl
theorem k3 : Tryd.f8.params.all (Tryd.prog.readableRec ·) = true := by kernel_rfl
theorem k4 : namedTie Tryd.prog Rows.fnExactEdgesAfterRow.named Rows.fnExactEdgesAfterSpec.vars = true := by kernel_rfl
theorem k5 : (Rows.fnExactEdgesAfterRow.stops == []) = true := by kernel_rfl
theorem k7 : (Rows.fnExactEdgesAfterRow.knobs == []) = true := by kernel_rfl
theorem k9 : (Rows.fnExactEdgesAfterRow.inPlace == Tryd.prog.inPlace 8) = true := by kernel_rfl
theorem k10 : (Rows.fnExactEdgesAfterRow.unfollowed == Tryd.prog.unfollowed 8) = true := by kernel_rfl
theorem k11 : (Rows.fnExactEdgesAfterRow.recurses == Tryd.prog.recurses 8) = true := by kernel_rfl
theorem k12 : (Rows.fnExactEdgesAfterRow.named == Tryd.prog.varsNamed 8) = true := by kernel_rfl
theorem k13 : (Rows.fnExactEdgesAfterRow.maps == (Tryd.f8.params.toList ++ Rows.fnExactEdgesAfterSpec.plain.varTypes Tryd.prog).any (Tryd.prog.mapsRec ·)) = true := by kernel_rfl
theorem k14 : (Rows.fnExactEdgesAfterRow.ifaces == (Tryd.f8.params.toList ++ Rows.fnExactEdgesAfterSpec.plain.varTypes Tryd.prog).any (Tryd.prog.ifacesRec ·)) = true := by kernel_rfl
theorem k15 : (Rows.fnExactEdgesAfterRow.mapsOut == Tryd.prog.mapsAmong Tryd.f8.resultTypes.toList) = true := by kernel_rfl
theorem k16 : (Rows.fnExactEdgesAfterRow.loops == (Tryd.f8.params.toList ++ Rows.fnExactEdgesAfterSpec.plain.varTypes Tryd.prog).any (Tryd.prog.loopsFrom ·)) = true := by kernel_rfl
theorem k17 : (Rows.fnExactEdgesAfterRow.wideKeys == (Tryd.f8.params.toList ++ Rows.fnExactEdgesAfterSpec.plain.varTypes Tryd.prog ++ Tryd.f8.resultTypes.toList).any (Tryd.prog.wideKeysFrom ·)) = true := by kernel_rfl
theorem k18 : Rows.fnExactEdgesAfterSpec.vars.all (Tryd.prog.varReadable ·) = true := by kernel_rfl
theorem k19 : Tryd.f8.resultTypes.all (fun t => Tryd.prog.readableRec t && decide (t < Tryd.prog.types.size)) = true := by kernel_rfl
theorem k20 : (Rows.fnExactEdgesAfterRow.ifacesOut == Tryd.f8.resultTypes.toList.any (Tryd.prog.ifacesRec ·)) = true := by kernel_rfl
theorem k21 : (Rows.fnExactEdgesAfterRow.loopsOut == Tryd.f8.resultTypes.toList.any (Tryd.prog.loopsFrom ·)) = true := by kernel_rfl
theorem k23 : Rows.fnExactEdgesAfterRow.shortTexts.isNone = true := by kernel_rfl
theorem k28 : facts.kindsOf Tryd.prog Tryd.f8 Rows.fnExactEdgesAfterRow = true := by kernel_rfl
theorem k29 : (Rows.fnExactEdgesAfterRow.pinned == Rows.fnExactEdgesAfterRow.pinnedBy) = true := by kernel_rfl
theorem k30 : (Rows.fnExactEdgesAfterRow.veiled == (Tryd.f8.params.toList ++ Rows.fnExactEdgesAfterSpec.plain.varTypes Tryd.prog ++ Tryd.f8.resultTypes.toList).any (Tryd.prog.veiledRec ·)) = true := by kernel_rfl
theorem k31 : Rows.fnExactEdgesAfterRow.veiledFits Tryd.prog Tryd.f8.params.toList (Tryd.f8.params.toList ++ Rows.fnExactEdgesAfterSpec.plain.varTypes Tryd.prog ++ Tryd.f8.resultTypes.toList) = true := by kernel_rfl
theorem named : Tryd.pinned.checked.prog.funcNamed Rows.fnExactEdgesAfterRow.func = some 8 := by kernel_rfl
theorem inst : decide (Tryd.f8.isInstance Tryd.prog Rows.fnExactEdgesAfterRow.origin Rows.fnExactEdgesAfterRow.targs) = true := by kernel_rfl
theorem stand : (Tryd.f8.params.toList.all fun u => !Tryd.prog.wantsStandIn u) = true := by kernel_rfl
theorem wft : Rows.fnExactEdgesAfterRow.wfByText (OpenSpec.ofChange Rows.fnExactEdgesAfterSpec) = true := by kernel_rfl
theorem goes : false = Rows.fnExactEdgesAfterRow.goesBy Tryd.pinned.checked.prog := by kernel_rfl
end Go.Proofs.YtcbbabepjfiigaaDoor.lawEdgesAfter
