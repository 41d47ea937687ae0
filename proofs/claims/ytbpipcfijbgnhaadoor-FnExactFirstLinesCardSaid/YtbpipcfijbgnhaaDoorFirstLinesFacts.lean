/-
  THE LAW FnExactFirstLines: the facts of its row, each one by itself.
-/
import Derived.Test.YtbpipcfijbgnhaaDoorCards
import Derived.Test.YtbpipcfijbgnhaaDoorTie
import Derived.Test.YtbpipcfijbgnhaaDoorJoined
import Derived.ProofKit
namespace Go.Proofs.YtbpipcfijbgnhaaDoor.lawFirstLines
open Go
theorem k0 : Rows.fnExactFirstLinesRow.wf (OpenSpec.ofChange Rows.fnExactFirstLinesSpec) = true := by kernel_rfl
theorem k3 : Tryd.f10.params.all (Tryd.prog.readableRec ·) = true := by kernel_rfl
theorem k4 : namedTie Tryd.prog Rows.fnExactFirstLinesRow.named Rows.fnExactFirstLinesSpec.vars = true := by kernel_rfl
theorem k5 : (Rows.fnExactFirstLinesRow.stops == []) = true := by kernel_rfl
theorem k7 : (Rows.fnExactFirstLinesRow.knobs == []) = true := by kernel_rfl
theorem k9 : (Rows.fnExactFirstLinesRow.inPlace == Tryd.prog.inPlace 10) = true := by kernel_rfl
theorem k10 : (Rows.fnExactFirstLinesRow.unfollowed == Tryd.prog.unfollowed 10) = true := by kernel_rfl
theorem k11 : (Rows.fnExactFirstLinesRow.recurses == Tryd.prog.recurses 10) = true := by kernel_rfl
theorem k12 : (Rows.fnExactFirstLinesRow.named == Tryd.prog.varsNamed 10) = true := by kernel_rfl
theorem k13 : (Rows.fnExactFirstLinesRow.maps == (Tryd.f10.params.toList ++ Rows.fnExactFirstLinesSpec.plain.varTypes Tryd.prog).any (Tryd.prog.mapsRec ·)) = true := by kernel_rfl
theorem k14 : (Rows.fnExactFirstLinesRow.ifaces == (Tryd.f10.params.toList ++ Rows.fnExactFirstLinesSpec.plain.varTypes Tryd.prog).any (Tryd.prog.ifacesRec ·)) = true := by kernel_rfl
theorem k15 : (Rows.fnExactFirstLinesRow.mapsOut == Tryd.prog.mapsAmong Tryd.f10.resultTypes.toList) = true := by kernel_rfl
theorem k16 : (Rows.fnExactFirstLinesRow.loops == (Tryd.f10.params.toList ++ Rows.fnExactFirstLinesSpec.plain.varTypes Tryd.prog).any (Tryd.prog.loopsFrom ·)) = true := by kernel_rfl
theorem k17 : (Rows.fnExactFirstLinesRow.wideKeys == (Tryd.f10.params.toList ++ Rows.fnExactFirstLinesSpec.plain.varTypes Tryd.prog ++ Tryd.f10.resultTypes.toList).any (Tryd.prog.wideKeysFrom ·)) = true := by kernel_rfl
theorem k18 : Rows.fnExactFirstLinesSpec.vars.all (Tryd.prog.varReadable ·) = true := by kernel_rfl
theorem k19 : Tryd.f10.resultTypes.all (fun t => Tryd.prog.readableRec t && decide (t < Tryd.prog.types.size)) = true := by kernel_rfl
theorem k20 : (Rows.fnExactFirstLinesRow.ifacesOut == Tryd.f10.resultTypes.toList.any (Tryd.prog.ifacesRec ·)) = true := by kernel_rfl
theorem k21 : (Rows.fnExactFirstLinesRow.loopsOut == Tryd.f10.resultTypes.toList.any (Tryd.prog.loopsFrom ·)) = true := by kernel_rfl
theorem k23 : Rows.fnExactFirstLinesRow.shortTexts.isNone = true := by kernel_rfl
theorem k28 : facts.kindsOf Tryd.prog Tryd.f10 Rows.fnExactFirstLinesRow = true := by kernel_rfl
theorem k29 : (Rows.fnExactFirstLinesRow.pinned == Rows.fnExactFirstLinesRow.pinnedBy) = true := by kernel_rfl
theorem k30 : (Rows.fnExactFirstLinesRow.veiled == (Tryd.f10.params.toList ++ Rows.fnExactFirstLinesSpec.plain.varTypes Tryd.prog ++ Tryd.f10.resultTypes.toList).any (Tryd.prog.veiledRec ·)) = true := by kernel_rfl
theorem k31 : Rows.fnExactFirstLinesRow.veiledFits Tryd.prog Tryd.f10.params.toList (Tryd.f10.params.toList ++ Rows.fnExactFirstLinesSpec.plain.varTypes Tryd.prog ++ Tryd.f10.resultTypes.toList) = true := by kernel_rfl
theorem named : Tryd.pinned.checked.prog.funcNamed Rows.fnExactFirstLinesRow.func = some 10 := by kernel_rfl
theorem inst : decide (Tryd.f10.isInstance Tryd.prog Rows.fnExactFirstLinesRow.origin Rows.fnExactFirstLinesRow.targs) = true := by kernel_rfl
theorem stand : (Tryd.f10.params.toList.all fun u => !Tryd.prog.wantsStandIn u) = true := by kernel_rfl
theorem wft : Rows.fnExactFirstLinesRow.wfByText (OpenSpec.ofChange Rows.fnExactFirstLinesSpec) = true := by kernel_rfl
theorem goes : false = Rows.fnExactFirstLinesRow.goesBy Tryd.pinned.checked.prog := by kernel_rfl
end Go.Proofs.YtbpipcfijbgnhaaDoor.lawFirstLines
