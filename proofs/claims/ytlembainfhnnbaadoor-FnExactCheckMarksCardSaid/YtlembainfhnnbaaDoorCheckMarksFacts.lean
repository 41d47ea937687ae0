/-
  THE LAW FnExactCheckMarks: the facts of its row, each one by itself.
-/
import Derived.Test.YtlembainfhnnbaaDoorCards
import Derived.Test.YtlembainfhnnbaaDoorTie
import Derived.Test.YtlembainfhnnbaaDoorJoined
import Derived.ProofKit
namespace Go.Proofs.YtlembainfhnnbaaDoor.lawCheckMarks
open Go
theorem k0 : Rows.fnExactCheckMarksRow.wf (OpenSpec.ofChange Rows.fnExactCheckMarksSpec) = true := by kernel_rfl
theorem k3 : Tryd.f4.params.all (Tryd.prog.readableRec ·) = true := by kernel_rfl
theorem k4 : namedTie Tryd.prog Rows.fnExactCheckMarksRow.named Rows.fnExactCheckMarksSpec.vars = true := by kernel_rfl
theorem k5 : (Rows.fnExactCheckMarksRow.stops == []) = true := by kernel_rfl
theorem k7 : (Rows.fnExactCheckMarksRow.knobs == []) = true := by kernel_rfl
theorem k9 : (Rows.fnExactCheckMarksRow.inPlace == Tryd.prog.inPlace 4) = true := by kernel_rfl
theorem k10 : (Rows.fnExactCheckMarksRow.unfollowed == Tryd.prog.unfollowed 4) = true := by kernel_rfl
theorem k11 : (Rows.fnExactCheckMarksRow.recurses == Tryd.prog.recurses 4) = true := by kernel_rfl
theorem k12 : (Rows.fnExactCheckMarksRow.named == Tryd.prog.varsNamed 4) = true := by kernel_rfl
theorem k13 : (Rows.fnExactCheckMarksRow.maps == (Tryd.f4.params.toList ++ Rows.fnExactCheckMarksSpec.plain.varTypes Tryd.prog).any (Tryd.prog.mapsRec ·)) = true := by kernel_rfl
theorem k14 : (Rows.fnExactCheckMarksRow.ifaces == (Tryd.f4.params.toList ++ Rows.fnExactCheckMarksSpec.plain.varTypes Tryd.prog).any (Tryd.prog.ifacesRec ·)) = true := by kernel_rfl
theorem k15 : (Rows.fnExactCheckMarksRow.mapsOut == Tryd.prog.mapsAmong Tryd.f4.resultTypes.toList) = true := by kernel_rfl
theorem k16 : (Rows.fnExactCheckMarksRow.loops == (Tryd.f4.params.toList ++ Rows.fnExactCheckMarksSpec.plain.varTypes Tryd.prog).any (Tryd.prog.loopsFrom ·)) = true := by kernel_rfl
theorem k17 : (Rows.fnExactCheckMarksRow.wideKeys == (Tryd.f4.params.toList ++ Rows.fnExactCheckMarksSpec.plain.varTypes Tryd.prog ++ Tryd.f4.resultTypes.toList).any (Tryd.prog.wideKeysFrom ·)) = true := by kernel_rfl
theorem k18 : Rows.fnExactCheckMarksSpec.vars.all (Tryd.prog.varReadable ·) = true := by kernel_rfl
theorem k19 : Tryd.f4.resultTypes.all (fun t => Tryd.prog.readableRec t && decide (t < Tryd.prog.types.size)) = true := by kernel_rfl
theorem k20 : (Rows.fnExactCheckMarksRow.ifacesOut == Tryd.f4.resultTypes.toList.any (Tryd.prog.ifacesRec ·)) = true := by kernel_rfl
theorem k21 : (Rows.fnExactCheckMarksRow.loopsOut == Tryd.f4.resultTypes.toList.any (Tryd.prog.loopsFrom ·)) = true := by kernel_rfl
theorem k23 : Rows.fnExactCheckMarksRow.shortTexts.isNone = true := by kernel_rfl
theorem k28 : facts.kindsOf Tryd.prog Tryd.f4 Rows.fnExactCheckMarksRow = true := by kernel_rfl
theorem k29 : (Rows.fnExactCheckMarksRow.pinned == Rows.fnExactCheckMarksRow.pinnedBy) = true := by kernel_rfl
theorem k30 : (Rows.fnExactCheckMarksRow.veiled == (Tryd.f4.params.toList ++ Rows.fnExactCheckMarksSpec.plain.varTypes Tryd.prog ++ Tryd.f4.resultTypes.toList).any (Tryd.prog.veiledRec ·)) = true := by kernel_rfl
theorem k31 : Rows.fnExactCheckMarksRow.veiledFits Tryd.prog Tryd.f4.params.toList (Tryd.f4.params.toList ++ Rows.fnExactCheckMarksSpec.plain.varTypes Tryd.prog ++ Tryd.f4.resultTypes.toList) = true := by kernel_rfl
theorem named : Tryd.pinned.checked.prog.funcNamed Rows.fnExactCheckMarksRow.func = some 4 := by kernel_rfl
theorem inst : decide (Tryd.f4.isInstance Tryd.prog Rows.fnExactCheckMarksRow.origin Rows.fnExactCheckMarksRow.targs) = true := by kernel_rfl
theorem stand : (Tryd.f4.params.toList.all fun u => !Tryd.prog.wantsStandIn u) = true := by kernel_rfl
theorem wft : Rows.fnExactCheckMarksRow.wfByText (OpenSpec.ofChange Rows.fnExactCheckMarksSpec) = true := by kernel_rfl
theorem goes : false = Rows.fnExactCheckMarksRow.goesBy Tryd.pinned.checked.prog := by kernel_rfl
end Go.Proofs.YtlembainfhnnbaaDoor.lawCheckMarks
