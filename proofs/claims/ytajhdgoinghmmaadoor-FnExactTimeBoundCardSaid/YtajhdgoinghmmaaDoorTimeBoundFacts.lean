/-
  THE LAW FnExactTimeBound: the facts of its row, each one by itself.
-/
import Derived.Test.YtajhdgoinghmmaaDoorCards
import Derived.Test.YtajhdgoinghmmaaDoorTie
import Derived.Test.YtajhdgoinghmmaaDoorJoined
import Derived.ProofKit
namespace Go.Proofs.YtajhdgoinghmmaaDoor.lawTimeBound
open Go
theorem k0 : Rows.fnExactTimeBoundRow.wf (OpenSpec.ofChange Rows.fnExactTimeBoundSpec) = true := by kernel_rfl
theorem k3 : Tryd.f11.params.all (Tryd.prog.readableRec ·) = true := by kernel_rfl
theorem k4 : namedTie Tryd.prog Rows.fnExactTimeBoundRow.named Rows.fnExactTimeBoundSpec.vars = true := by kernel_rfl
theorem k5 : (Rows.fnExactTimeBoundRow.stops == []) = true := by kernel_rfl
theorem k7 : (Rows.fnExactTimeBoundRow.knobs == []) = true := by kernel_rfl
theorem k9 : (Rows.fnExactTimeBoundRow.inPlace == Tryd.prog.inPlace 11) = true := by kernel_rfl
theorem k10 : (Rows.fnExactTimeBoundRow.unfollowed == Tryd.prog.unfollowed 11) = true := by kernel_rfl
theorem k11 : (Rows.fnExactTimeBoundRow.recurses == Tryd.prog.recurses 11) = true := by kernel_rfl
theorem k12 : (Rows.fnExactTimeBoundRow.named == Tryd.prog.varsNamed 11) = true := by kernel_rfl
theorem k13 : (Rows.fnExactTimeBoundRow.maps == (Tryd.f11.params.toList ++ Rows.fnExactTimeBoundSpec.plain.varTypes Tryd.prog).any (Tryd.prog.mapsRec ·)) = true := by kernel_rfl
theorem k14 : (Rows.fnExactTimeBoundRow.ifaces == (Tryd.f11.params.toList ++ Rows.fnExactTimeBoundSpec.plain.varTypes Tryd.prog).any (Tryd.prog.ifacesRec ·)) = true := by kernel_rfl
theorem k15 : (Rows.fnExactTimeBoundRow.mapsOut == Tryd.prog.mapsAmong Tryd.f11.resultTypes.toList) = true := by kernel_rfl
theorem k16 : (Rows.fnExactTimeBoundRow.loops == (Tryd.f11.params.toList ++ Rows.fnExactTimeBoundSpec.plain.varTypes Tryd.prog).any (Tryd.prog.loopsFrom ·)) = true := by kernel_rfl
theorem k17 : (Rows.fnExactTimeBoundRow.wideKeys == (Tryd.f11.params.toList ++ Rows.fnExactTimeBoundSpec.plain.varTypes Tryd.prog ++ Tryd.f11.resultTypes.toList).any (Tryd.prog.wideKeysFrom ·)) = true := by kernel_rfl
theorem k18 : Rows.fnExactTimeBoundSpec.vars.all (Tryd.prog.varReadable ·) = true := by kernel_rfl
theorem k19 : Tryd.f11.resultTypes.all (fun t => Tryd.prog.readableRec t && decide (t < Tryd.prog.types.size)) = true := by kernel_rfl
theorem k20 : (Rows.fnExactTimeBoundRow.ifacesOut == Tryd.f11.resultTypes.toList.any (Tryd.prog.ifacesRec ·)) = true := by kernel_rfl
theorem k21 : (Rows.fnExactTimeBoundRow.loopsOut == Tryd.f11.resultTypes.toList.any (Tryd.prog.loopsFrom ·)) = true := by kernel_rfl
theorem k23 : Rows.fnExactTimeBoundRow.shortTexts.isNone = true := by kernel_rfl
theorem k28 : facts.kindsOf Tryd.prog Tryd.f11 Rows.fnExactTimeBoundRow = true := by kernel_rfl
theorem k29 : (Rows.fnExactTimeBoundRow.pinned == Rows.fnExactTimeBoundRow.pinnedBy) = true := by kernel_rfl
theorem k30 : (Rows.fnExactTimeBoundRow.veiled == (Tryd.f11.params.toList ++ Rows.fnExactTimeBoundSpec.plain.varTypes Tryd.prog ++ Tryd.f11.resultTypes.toList).any (Tryd.prog.veiledRec ·)) = true := by kernel_rfl
theorem k31 : Rows.fnExactTimeBoundRow.veiledFits Tryd.prog Tryd.f11.params.toList (Tryd.f11.params.toList ++ Rows.fnExactTimeBoundSpec.plain.varTypes Tryd.prog ++ Tryd.f11.resultTypes.toList) = true := by kernel_rfl
theorem named : Tryd.pinned.checked.prog.funcNamed Rows.fnExactTimeBoundRow.func = some 11 := by kernel_rfl
theorem inst : decide (Tryd.f11.isInstance Tryd.prog Rows.fnExactTimeBoundRow.origin Rows.fnExactTimeBoundRow.targs) = true := by kernel_rfl
theorem stand : (Tryd.f11.params.toList.all fun u => !Tryd.prog.wantsStandIn u) = true := by kernel_rfl
theorem wft : Rows.fnExactTimeBoundRow.wfByText (OpenSpec.ofChange Rows.fnExactTimeBoundSpec) = true := by kernel_rfl
theorem goes : false = Rows.fnExactTimeBoundRow.goesBy Tryd.pinned.checked.prog := by kernel_rfl
end Go.Proofs.YtajhdgoinghmmaaDoor.lawTimeBound
