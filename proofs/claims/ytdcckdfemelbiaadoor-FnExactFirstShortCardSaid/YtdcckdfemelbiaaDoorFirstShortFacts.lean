/-
  THE LAW FnExactFirstShort: the facts of its row, each one by itself.
-/
import Derived.Test.YtdcckdfemelbiaaDoorCards
import Derived.Test.YtdcckdfemelbiaaDoorTie
import Derived.Test.YtdcckdfemelbiaaDoorJoined
import Derived.ProofKit
namespace Go.Proofs.YtdcckdfemelbiaaDoor.lawFirstShort
open Go
theorem k0 : Rows.fnExactFirstShortRow.wf (OpenSpec.ofChange Rows.fnExactFirstShortSpec) = true := by kernel_rfl
theorem k3 : Tryd.f13.params.all (Tryd.prog.readableRec ·) = true := by kernel_rfl
theorem k4 : namedTie Tryd.prog Rows.fnExactFirstShortRow.named Rows.fnExactFirstShortSpec.vars = true := by kernel_rfl
theorem k5 : (Rows.fnExactFirstShortRow.stops == []) = true := by kernel_rfl
theorem k7 : (Rows.fnExactFirstShortRow.knobs == []) = true := by kernel_rfl
theorem k9 : (Rows.fnExactFirstShortRow.inPlace == Tryd.prog.inPlace 13) = true := by kernel_rfl
theorem k10 : (Rows.fnExactFirstShortRow.unfollowed == Tryd.prog.unfollowed 13) = true := by kernel_rfl
theorem k11 : (Rows.fnExactFirstShortRow.recurses == Tryd.prog.recurses 13) = true := by kernel_rfl
theorem k12 : (Rows.fnExactFirstShortRow.named == Tryd.prog.varsNamed 13) = true := by kernel_rfl
theorem k13 : (Rows.fnExactFirstShortRow.maps == (Tryd.f13.params.toList ++ Rows.fnExactFirstShortSpec.plain.varTypes Tryd.prog).any (Tryd.prog.mapsRec ·)) = true := by kernel_rfl
theorem k14 : (Rows.fnExactFirstShortRow.ifaces == (Tryd.f13.params.toList ++ Rows.fnExactFirstShortSpec.plain.varTypes Tryd.prog).any (Tryd.prog.ifacesRec ·)) = true := by kernel_rfl
theorem k15 : (Rows.fnExactFirstShortRow.mapsOut == Tryd.prog.mapsAmong Tryd.f13.resultTypes.toList) = true := by kernel_rfl
theorem k16 : (Rows.fnExactFirstShortRow.loops == (Tryd.f13.params.toList ++ Rows.fnExactFirstShortSpec.plain.varTypes Tryd.prog).any (Tryd.prog.loopsFrom ·)) = true := by kernel_rfl
theorem k17 : (Rows.fnExactFirstShortRow.wideKeys == (Tryd.f13.params.toList ++ Rows.fnExactFirstShortSpec.plain.varTypes Tryd.prog ++ Tryd.f13.resultTypes.toList).any (Tryd.prog.wideKeysFrom ·)) = true := by kernel_rfl
theorem k18 : Rows.fnExactFirstShortSpec.vars.all (Tryd.prog.varReadable ·) = true := by kernel_rfl
theorem k19 : Tryd.f13.resultTypes.all (fun t => Tryd.prog.readableRec t && decide (t < Tryd.prog.types.size)) = true := by kernel_rfl
theorem k20 : (Rows.fnExactFirstShortRow.ifacesOut == Tryd.f13.resultTypes.toList.any (Tryd.prog.ifacesRec ·)) = true := by kernel_rfl
theorem k21 : (Rows.fnExactFirstShortRow.loopsOut == Tryd.f13.resultTypes.toList.any (Tryd.prog.loopsFrom ·)) = true := by kernel_rfl
theorem k23 : Rows.fnExactFirstShortRow.shortTexts.isNone = true := by kernel_rfl
theorem k28 : facts.kindsOf Tryd.prog Tryd.f13 Rows.fnExactFirstShortRow = true := by kernel_rfl
theorem k29 : (Rows.fnExactFirstShortRow.pinned == Rows.fnExactFirstShortRow.pinnedBy) = true := by kernel_rfl
theorem k30 : (Rows.fnExactFirstShortRow.veiled == (Tryd.f13.params.toList ++ Rows.fnExactFirstShortSpec.plain.varTypes Tryd.prog ++ Tryd.f13.resultTypes.toList).any (Tryd.prog.veiledRec ·)) = true := by kernel_rfl
theorem k31 : Rows.fnExactFirstShortRow.veiledFits Tryd.prog Tryd.f13.params.toList (Tryd.f13.params.toList ++ Rows.fnExactFirstShortSpec.plain.varTypes Tryd.prog ++ Tryd.f13.resultTypes.toList) = true := by kernel_rfl
theorem named : Tryd.pinned.checked.prog.funcNamed Rows.fnExactFirstShortRow.func = some 13 := by kernel_rfl
theorem inst : decide (Tryd.f13.isInstance Tryd.prog Rows.fnExactFirstShortRow.origin Rows.fnExactFirstShortRow.targs) = true := by kernel_rfl
theorem stand : (Tryd.f13.params.toList.all fun u => !Tryd.prog.wantsStandIn u) = true := by kernel_rfl
theorem wft : Rows.fnExactFirstShortRow.wfByText (OpenSpec.ofChange Rows.fnExactFirstShortSpec) = true := by kernel_rfl
theorem goes : false = Rows.fnExactFirstShortRow.goesBy Tryd.pinned.checked.prog := by kernel_rfl
end Go.Proofs.YtdcckdfemelbiaaDoor.lawFirstShort
