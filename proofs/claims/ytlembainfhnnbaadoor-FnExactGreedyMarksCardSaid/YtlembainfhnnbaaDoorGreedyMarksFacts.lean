/-
  THE LAW FnExactGreedyMarks: the facts of its row, each one by itself.
-/
import Derived.Test.YtlembainfhnnbaaDoorCards
import Derived.Test.YtlembainfhnnbaaDoorTie
import Derived.Test.YtlembainfhnnbaaDoorJoined
import Derived.ProofKit
namespace Go.Proofs.YtlembainfhnnbaaDoor.lawGreedyMarks
open Go
theorem k0 : Rows.fnExactGreedyMarksRow.wf (OpenSpec.ofChange Rows.fnExactGreedyMarksSpec) = true := by kernel_rfl
theorem k3 : Tryd.f7.params.all (Tryd.prog.readableRec ·) = true := by kernel_rfl
theorem k4 : namedTie Tryd.prog Rows.fnExactGreedyMarksRow.named Rows.fnExactGreedyMarksSpec.vars = true := by kernel_rfl
theorem k5 : (Rows.fnExactGreedyMarksRow.stops == []) = true := by kernel_rfl
theorem k7 : (Rows.fnExactGreedyMarksRow.knobs == []) = true := by kernel_rfl
theorem k9 : (Rows.fnExactGreedyMarksRow.inPlace == Tryd.prog.inPlace 7) = true := by kernel_rfl
theorem k10 : (Rows.fnExactGreedyMarksRow.unfollowed == Tryd.prog.unfollowed 7) = true := by kernel_rfl
theorem k11 : (Rows.fnExactGreedyMarksRow.recurses == Tryd.prog.recurses 7) = true := by kernel_rfl
theorem k12 : (Rows.fnExactGreedyMarksRow.named == Tryd.prog.varsNamed 7) = true := by kernel_rfl
theorem k13 : (Rows.fnExactGreedyMarksRow.maps == (Tryd.f7.params.toList ++ Rows.fnExactGreedyMarksSpec.plain.varTypes Tryd.prog).any (Tryd.prog.mapsRec ·)) = true := by kernel_rfl
theorem k14 : (Rows.fnExactGreedyMarksRow.ifaces == (Tryd.f7.params.toList ++ Rows.fnExactGreedyMarksSpec.plain.varTypes Tryd.prog).any (Tryd.prog.ifacesRec ·)) = true := by kernel_rfl
theorem k15 : (Rows.fnExactGreedyMarksRow.mapsOut == Tryd.prog.mapsAmong Tryd.f7.resultTypes.toList) = true := by kernel_rfl
theorem k16 : (Rows.fnExactGreedyMarksRow.loops == (Tryd.f7.params.toList ++ Rows.fnExactGreedyMarksSpec.plain.varTypes Tryd.prog).any (Tryd.prog.loopsFrom ·)) = true := by kernel_rfl
theorem k17 : (Rows.fnExactGreedyMarksRow.wideKeys == (Tryd.f7.params.toList ++ Rows.fnExactGreedyMarksSpec.plain.varTypes Tryd.prog ++ Tryd.f7.resultTypes.toList).any (Tryd.prog.wideKeysFrom ·)) = true := by kernel_rfl
theorem k18 : Rows.fnExactGreedyMarksSpec.vars.all (Tryd.prog.varReadable ·) = true := by kernel_rfl
theorem k19 : Tryd.f7.resultTypes.all (fun t => Tryd.prog.readableRec t && decide (t < Tryd.prog.types.size)) = true := by kernel_rfl
theorem k20 : (Rows.fnExactGreedyMarksRow.ifacesOut == Tryd.f7.resultTypes.toList.any (Tryd.prog.ifacesRec ·)) = true := by kernel_rfl
theorem k21 : (Rows.fnExactGreedyMarksRow.loopsOut == Tryd.f7.resultTypes.toList.any (Tryd.prog.loopsFrom ·)) = true := by kernel_rfl
theorem k23 : Rows.fnExactGreedyMarksRow.shortTexts.isNone = true := by kernel_rfl
theorem k28 : facts.kindsOf Tryd.prog Tryd.f7 Rows.fnExactGreedyMarksRow = true := by kernel_rfl
theorem k29 : (Rows.fnExactGreedyMarksRow.pinned == Rows.fnExactGreedyMarksRow.pinnedBy) = true := by kernel_rfl
theorem k30 : (Rows.fnExactGreedyMarksRow.veiled == (Tryd.f7.params.toList ++ Rows.fnExactGreedyMarksSpec.plain.varTypes Tryd.prog ++ Tryd.f7.resultTypes.toList).any (Tryd.prog.veiledRec ·)) = true := by kernel_rfl
theorem k31 : Rows.fnExactGreedyMarksRow.veiledFits Tryd.prog Tryd.f7.params.toList (Tryd.f7.params.toList ++ Rows.fnExactGreedyMarksSpec.plain.varTypes Tryd.prog ++ Tryd.f7.resultTypes.toList) = true := by kernel_rfl
theorem named : Tryd.pinned.checked.prog.funcNamed Rows.fnExactGreedyMarksRow.func = some 7 := by kernel_rfl
theorem inst : decide (Tryd.f7.isInstance Tryd.prog Rows.fnExactGreedyMarksRow.origin Rows.fnExactGreedyMarksRow.targs) = true := by kernel_rfl
theorem stand : (Tryd.f7.params.toList.all fun u => !Tryd.prog.wantsStandIn u) = true := by kernel_rfl
theorem wft : Rows.fnExactGreedyMarksRow.wfByText (OpenSpec.ofChange Rows.fnExactGreedyMarksSpec) = true := by kernel_rfl
theorem goes : false = Rows.fnExactGreedyMarksRow.goesBy Tryd.pinned.checked.prog := by kernel_rfl
end Go.Proofs.YtlembainfhnnbaaDoor.lawGreedyMarks
