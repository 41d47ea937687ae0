/-
  THE LAW FnExactCheckLines: the facts of its row, each one by itself.
-/
import Derived.Test.YtbpipcfijbgnhaaDoorCards
import Derived.Test.YtbpipcfijbgnhaaDoorTie
import Derived.Test.YtbpipcfijbgnhaaDoorJoined
import Derived.ProofKit
namespace Go.Proofs.YtbpipcfijbgnhaaDoor.lawCheckLines
open Go
theorem k0 : Rows.fnExactCheckLinesRow.wf (OpenSpec.ofChange Rows.fnExactCheckLinesSpec) = true := by kernel_rfl
theorem k3 : Tryd.f11.params.all (Tryd.prog.readableRec ·) = true := by kernel_rfl
theorem k4 : namedTie Tryd.prog Rows.fnExactCheckLinesRow.named Rows.fnExactCheckLinesSpec.vars = true := by kernel_rfl
theorem k5 : (Rows.fnExactCheckLinesRow.stops == []) = true := by kernel_rfl
theorem k7 : (Rows.fnExactCheckLinesRow.knobs == []) = true := by kernel_rfl
theorem k9 : (Rows.fnExactCheckLinesRow.inPlace == Tryd.prog.inPlace 11) = true := by kernel_rfl
theorem k10 : (Rows.fnExactCheckLinesRow.unfollowed == Tryd.prog.unfollowed 11) = true := by kernel_rfl
theorem k11 : (Rows.fnExactCheckLinesRow.recurses == Tryd.prog.recurses 11) = true := by kernel_rfl
theorem k12 : (Rows.fnExactCheckLinesRow.named == Tryd.prog.varsNamed 11) = true := by kernel_rfl
theorem k13 : (Rows.fnExactCheckLinesRow.maps == (Tryd.f11.params.toList ++ Rows.fnExactCheckLinesSpec.plain.varTypes Tryd.prog).any (Tryd.prog.mapsRec ·)) = true := by kernel_rfl
theorem k14 : (Rows.fnExactCheckLinesRow.ifaces == (Tryd.f11.params.toList ++ Rows.fnExactCheckLinesSpec.plain.varTypes Tryd.prog).any (Tryd.prog.ifacesRec ·)) = true := by kernel_rfl
theorem k15 : (Rows.fnExactCheckLinesRow.mapsOut == Tryd.prog.mapsAmong Tryd.f11.resultTypes.toList) = true := by kernel_rfl
theorem k16 : (Rows.fnExactCheckLinesRow.loops == (Tryd.f11.params.toList ++ Rows.fnExactCheckLinesSpec.plain.varTypes Tryd.prog).any (Tryd.prog.loopsFrom ·)) = true := by kernel_rfl
theorem k17 : (Rows.fnExactCheckLinesRow.wideKeys == (Tryd.f11.params.toList ++ Rows.fnExactCheckLinesSpec.plain.varTypes Tryd.prog ++ Tryd.f11.resultTypes.toList).any (Tryd.prog.wideKeysFrom ·)) = true := by kernel_rfl
theorem k18 : Rows.fnExactCheckLinesSpec.vars.all (Tryd.prog.varReadable ·) = true := by kernel_rfl
theorem k19 : Tryd.f11.resultTypes.all (fun t => Tryd.prog.readableRec t && decide (t < Tryd.prog.types.size)) = true := by kernel_rfl
theorem k20 : (Rows.fnExactCheckLinesRow.ifacesOut == Tryd.f11.resultTypes.toList.any (Tryd.prog.ifacesRec ·)) = true := by kernel_rfl
theorem k21 : (Rows.fnExactCheckLinesRow.loopsOut == Tryd.f11.resultTypes.toList.any (Tryd.prog.loopsFrom ·)) = true := by kernel_rfl
theorem k23 : Rows.fnExactCheckLinesRow.shortTexts.isNone = true := by kernel_rfl
theorem k28 : facts.kindsOf Tryd.prog Tryd.f11 Rows.fnExactCheckLinesRow = true := by kernel_rfl
theorem k29 : (Rows.fnExactCheckLinesRow.pinned == Rows.fnExactCheckLinesRow.pinnedBy) = true := by kernel_rfl
theorem k30 : (Rows.fnExactCheckLinesRow.veiled == (Tryd.f11.params.toList ++ Rows.fnExactCheckLinesSpec.plain.varTypes Tryd.prog ++ Tryd.f11.resultTypes.toList).any (Tryd.prog.veiledRec ·)) = true := by kernel_rfl
theorem k31 : Rows.fnExactCheckLinesRow.veiledFits Tryd.prog Tryd.f11.params.toList (Tryd.f11.params.toList ++ Rows.fnExactCheckLinesSpec.plain.varTypes Tryd.prog ++ Tryd.f11.resultTypes.toList) = true := by kernel_rfl
theorem named : Tryd.pinned.checked.prog.funcNamed Rows.fnExactCheckLinesRow.func = some 11 := by kernel_rfl
theorem inst : decide (Tryd.f11.isInstance Tryd.prog Rows.fnExactCheckLinesRow.origin Rows.fnExactCheckLinesRow.targs) = true := by kernel_rfl
theorem stand : (Tryd.f11.params.toList.all fun u => !Tryd.prog.wantsStandIn u) = true := by kernel_rfl
theorem wft : Rows.fnExactCheckLinesRow.wfByText (OpenSpec.ofChange Rows.fnExactCheckLinesSpec) = true := by kernel_rfl
theorem goes : false = Rows.fnExactCheckLinesRow.goesBy Tryd.pinned.checked.prog := by kernel_rfl
end Go.Proofs.YtbpipcfijbgnhaaDoor.lawCheckLines
