/-
  THE LAW FnExactSortByMarks: the facts of its row, each one by itself.
-/
import Derived.Test.YtlembainfhnnbaaDoorCards
import Derived.Test.YtlembainfhnnbaaDoorTie
import Derived.Test.YtlembainfhnnbaaDoorJoined
import Derived.ProofKit
namespace Go.Proofs.YtlembainfhnnbaaDoor.lawSortByMarks
open Go
theorem k0 : Rows.fnExactSortByMarksRow.wf (OpenSpec.ofChange Rows.fnExactSortByMarksSpec) = true := by kernel_rfl
theorem k3 : Tryd.f13.params.all (Tryd.prog.readableRec ·) = true := by kernel_rfl
theorem k4 : namedTie Tryd.prog Rows.fnExactSortByMarksRow.named Rows.fnExactSortByMarksSpec.vars = true := by kernel_rfl
theorem k5 : (Rows.fnExactSortByMarksRow.stops == []) = true := by kernel_rfl
theorem k7 : (Rows.fnExactSortByMarksRow.knobs == []) = true := by kernel_rfl
theorem k9 : (Rows.fnExactSortByMarksRow.inPlace == Tryd.prog.inPlace 13) = true := by kernel_rfl
theorem k10 : (Rows.fnExactSortByMarksRow.unfollowed == Tryd.prog.unfollowed 13) = true := by kernel_rfl
theorem k11 : (Rows.fnExactSortByMarksRow.recurses == Tryd.prog.recurses 13) = true := by kernel_rfl
theorem k12 : (Rows.fnExactSortByMarksRow.named == Tryd.prog.varsNamed 13) = true := by kernel_rfl
theorem k13 : (Rows.fnExactSortByMarksRow.maps == (Tryd.f13.params.toList ++ Rows.fnExactSortByMarksSpec.plain.varTypes Tryd.prog).any (Tryd.prog.mapsRec ·)) = true := by kernel_rfl
theorem k14 : (Rows.fnExactSortByMarksRow.ifaces == (Tryd.f13.params.toList ++ Rows.fnExactSortByMarksSpec.plain.varTypes Tryd.prog).any (Tryd.prog.ifacesRec ·)) = true := by kernel_rfl
theorem k15 : (Rows.fnExactSortByMarksRow.mapsOut == Tryd.prog.mapsAmong Tryd.f13.resultTypes.toList) = true := by kernel_rfl
theorem k16 : (Rows.fnExactSortByMarksRow.loops == (Tryd.f13.params.toList ++ Rows.fnExactSortByMarksSpec.plain.varTypes Tryd.prog).any (Tryd.prog.loopsFrom ·)) = true := by kernel_rfl
theorem k17 : (Rows.fnExactSortByMarksRow.wideKeys == (Tryd.f13.params.toList ++ Rows.fnExactSortByMarksSpec.plain.varTypes Tryd.prog ++ Tryd.f13.resultTypes.toList).any (Tryd.prog.wideKeysFrom ·)) = true := by kernel_rfl
theorem k18 : Rows.fnExactSortByMarksSpec.vars.all (Tryd.prog.varReadable ·) = true := by kernel_rfl
theorem k19 : Tryd.f13.resultTypes.all (fun t => Tryd.prog.readableRec t && decide (t < Tryd.prog.types.size)) = true := by kernel_rfl
theorem k20 : (Rows.fnExactSortByMarksRow.ifacesOut == Tryd.f13.resultTypes.toList.any (Tryd.prog.ifacesRec ·)) = true := by kernel_rfl
theorem k21 : (Rows.fnExactSortByMarksRow.loopsOut == Tryd.f13.resultTypes.toList.any (Tryd.prog.loopsFrom ·)) = true := by kernel_rfl
theorem k23 : Rows.fnExactSortByMarksRow.shortTexts.isNone = true := by kernel_rfl
theorem k28 : facts.kindsOf Tryd.prog Tryd.f13 Rows.fnExactSortByMarksRow = true := by kernel_rfl
theorem k29 : (Rows.fnExactSortByMarksRow.pinned == Rows.fnExactSortByMarksRow.pinnedBy) = true := by kernel_rfl
theorem k30 : (Rows.fnExactSortByMarksRow.veiled == (Tryd.f13.params.toList ++ Rows.fnExactSortByMarksSpec.plain.varTypes Tryd.prog ++ Tryd.f13.resultTypes.toList).any (Tryd.prog.veiledRec ·)) = true := by kernel_rfl
theorem k31 : Rows.fnExactSortByMarksRow.veiledFits Tryd.prog Tryd.f13.params.toList (Tryd.f13.params.toList ++ Rows.fnExactSortByMarksSpec.plain.varTypes Tryd.prog ++ Tryd.f13.resultTypes.toList) = true := by kernel_rfl
theorem named : Tryd.pinned.checked.prog.funcNamed Rows.fnExactSortByMarksRow.func = some 13 := by kernel_rfl
theorem inst : decide (Tryd.f13.isInstance Tryd.prog Rows.fnExactSortByMarksRow.origin Rows.fnExactSortByMarksRow.targs) = true := by kernel_rfl
theorem stand : (Tryd.f13.params.toList.all fun u => !Tryd.prog.wantsStandIn u) = true := by kernel_rfl
theorem wft : Rows.fnExactSortByMarksRow.wfByText (OpenSpec.ofChange Rows.fnExactSortByMarksSpec) = true := by kernel_rfl
theorem goes : false = Rows.fnExactSortByMarksRow.goesBy Tryd.pinned.checked.prog := by kernel_rfl
end Go.Proofs.YtlembainfhnnbaaDoor.lawSortByMarks
