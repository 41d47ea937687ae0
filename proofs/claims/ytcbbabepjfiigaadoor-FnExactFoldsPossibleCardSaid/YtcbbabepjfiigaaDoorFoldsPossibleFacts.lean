/-
  THE LAW FnExactFoldsPossible: the facts of its row, each one by itself.
-/
import Derived.Test.YtcbbabepjfiigaaDoorCards
import Derived.Test.YtcbbabepjfiigaaDoorTie
import Derived.Test.YtcbbabepjfiigaaDoorJoined
import Derived.ProofKit
namespace Go.Proofs.YtcbbabepjfiigaaDoor.lawFoldsPossible
open Go
theorem k0 : Rows.fnExactFoldsPossibleRow.wf (OpenSpec.ofChange Rows.fnExactFoldsPossibleSpec) = true := by kernel_rfl
theorem k3 : Tryd.f5.params.all (Tryd.prog.readableRec ·) = true := by kernel_rfl
theorem k4 : namedTie Tryd.prog Rows.fnExactFoldsPossibleRow.named Rows.fnExactFoldsPossibleSpec.vars = true := by kernel_rfl
theorem k5 : (Rows.fnExactFoldsPossibleRow.stops == []) = true := by kernel_rfl
theorem k7 : (Rows.fnExactFoldsPossibleRow.knobs == []) = true := by kernel_rfl
theorem k9 : (Rows.fnExactFoldsPossibleRow.inPlace == Tryd.prog.inPlace 5) = true := by kernel_rfl
theorem k10 : (Rows.fnExactFoldsPossibleRow.unfollowed == Tryd.prog.unfollowed 5) = true := by kernel_rfl
theorem k11 : (Rows.fnExactFoldsPossibleRow.recurses == Tryd.prog.recurses 5) = true := by kernel_rfl
theorem k12 : (Rows.fnExactFoldsPossibleRow.named == Tryd.prog.varsNamed 5) = true := by kernel_rfl
theorem k13 : (Rows.fnExactFoldsPossibleRow.maps == (Tryd.f5.params.toList ++ Rows.fnExactFoldsPossibleSpec.plain.varTypes Tryd.prog).any (Tryd.prog.mapsRec ·)) = true := by kernel_rfl
theorem k14 : (Rows.fnExactFoldsPossibleRow.ifaces == (Tryd.f5.params.toList ++ Rows.fnExactFoldsPossibleSpec.plain.varTypes Tryd.prog).any (Tryd.prog.ifacesRec ·)) = true := by kernel_rfl
theorem k15 : (Rows.fnExactFoldsPossibleRow.mapsOut == Tryd.prog.mapsAmong Tryd.f5.resultTypes.toList) = true := by kernel_rfl
theorem k16 : (Rows.fnExactFoldsPossibleRow.loops == (Tryd.f5.params.toList ++ Rows.fnExactFoldsPossibleSpec.plain.varTypes Tryd.prog).any (Tryd.prog.loopsFrom ·)) = true := by kernel_rfl
theorem k17 : (Rows.fnExactFoldsPossibleRow.wideKeys == (Tryd.f5.params.toList ++ Rows.fnExactFoldsPossibleSpec.plain.varTypes Tryd.prog ++ Tryd.f5.resultTypes.toList).any (Tryd.prog.wideKeysFrom ·)) = true := by kernel_rfl
theorem k18 : Rows.fnExactFoldsPossibleSpec.vars.all (Tryd.prog.varReadable ·) = true := by kernel_rfl
theorem k19 : Tryd.f5.resultTypes.all (fun t => Tryd.prog.readableRec t && decide (t < Tryd.prog.types.size)) = true := by kernel_rfl
theorem k20 : (Rows.fnExactFoldsPossibleRow.ifacesOut == Tryd.f5.resultTypes.toList.any (Tryd.prog.ifacesRec ·)) = true := by kernel_rfl
theorem k21 : (Rows.fnExactFoldsPossibleRow.loopsOut == Tryd.f5.resultTypes.toList.any (Tryd.prog.loopsFrom ·)) = true := by kernel_rfl
theorem k23 : Rows.fnExactFoldsPossibleRow.shortTexts.isNone = true := by kernel_rfl
theorem k28 : facts.kindsOf Tryd.prog Tryd.f5 Rows.fnExactFoldsPossibleRow = true := by kernel_rfl
theorem k29 : (Rows.fnExactFoldsPossibleRow.pinned == Rows.fnExactFoldsPossibleRow.pinnedBy) = true := by kernel_rfl
theorem k30 : (Rows.fnExactFoldsPossibleRow.veiled == (Tryd.f5.params.toList ++ Rows.fnExactFoldsPossibleSpec.plain.varTypes Tryd.prog ++ Tryd.f5.resultTypes.toList).any (Tryd.prog.veiledRec ·)) = true := by kernel_rfl
theorem k31 : Rows.fnExactFoldsPossibleRow.veiledFits Tryd.prog Tryd.f5.params.toList (Tryd.f5.params.toList ++ Rows.fnExactFoldsPossibleSpec.plain.varTypes Tryd.prog ++ Tryd.f5.resultTypes.toList) = true := by kernel_rfl
theorem named : Tryd.pinned.checked.prog.funcNamed Rows.fnExactFoldsPossibleRow.func = some 5 := by kernel_rfl
theorem inst : decide (Tryd.f5.isInstance Tryd.prog Rows.fnExactFoldsPossibleRow.origin Rows.fnExactFoldsPossibleRow.targs) = true := by kernel_rfl
theorem stand : (Tryd.f5.params.toList.all fun u => !Tryd.prog.wantsStandIn u) = true := by kernel_rfl
theorem wft : Rows.fnExactFoldsPossibleRow.wfByText (OpenSpec.ofChange Rows.fnExactFoldsPossibleSpec) = true := by kernel_rfl
theorem goes : false = Rows.fnExactFoldsPossibleRow.goesBy Tryd.pinned.checked.prog := by kernel_rfl
end Go.Proofs.YtcbbabepjfiigaaDoor.lawFoldsPossible
