/-
  THE LAW FnExactLatenessOf: the facts of its row, each one by itself.
-/
import Derived.Test.YtajhdgoinghmmaaDoorCards
import Derived.Test.YtajhdgoinghmmaaDoorTie
import Derived.Test.YtajhdgoinghmmaaDoorJoined
import Derived.ProofKit
namespace Go.Proofs.YtajhdgoinghmmaaDoor.lawLatenessOf
open Go
theorem k0 : Rows.fnExactLatenessOfRow.wf (OpenSpec.ofChange Rows.fnExactLatenessOfSpec) = true := by kernel_rfl
theorem k3 : Tryd.f7.params.all (Tryd.prog.readableRec ·) = true := by kernel_rfl
theorem k4 : namedTie Tryd.prog Rows.fnExactLatenessOfRow.named Rows.fnExactLatenessOfSpec.vars = true := by kernel_rfl
theorem k5 : (Rows.fnExactLatenessOfRow.stops == []) = true := by kernel_rfl
theorem k7 : (Rows.fnExactLatenessOfRow.knobs == []) = true := by kernel_rfl
theorem k9 : (Rows.fnExactLatenessOfRow.inPlace == Tryd.prog.inPlace 7) = true := by kernel_rfl
theorem k10 : (Rows.fnExactLatenessOfRow.unfollowed == Tryd.prog.unfollowed 7) = true := by kernel_rfl
theorem k11 : (Rows.fnExactLatenessOfRow.recurses == Tryd.prog.recurses 7) = true := by kernel_rfl
theorem k12 : (Rows.fnExactLatenessOfRow.named == Tryd.prog.varsNamed 7) = true := by kernel_rfl
theorem k13 : (Rows.fnExactLatenessOfRow.maps == (Tryd.f7.params.toList ++ Rows.fnExactLatenessOfSpec.plain.varTypes Tryd.prog).any (Tryd.prog.mapsRec ·)) = true := by kernel_rfl
theorem k14 : (Rows.fnExactLatenessOfRow.ifaces == (Tryd.f7.params.toList ++ Rows.fnExactLatenessOfSpec.plain.varTypes Tryd.prog).any (Tryd.prog.ifacesRec ·)) = true := by kernel_rfl
theorem k15 : (Rows.fnExactLatenessOfRow.mapsOut == Tryd.prog.mapsAmong Tryd.f7.resultTypes.toList) = true := by kernel_rfl
theorem k16 : (Rows.fnExactLatenessOfRow.loops == (Tryd.f7.params.toList ++ Rows.fnExactLatenessOfSpec.plain.varTypes Tryd.prog).any (Tryd.prog.loopsFrom ·)) = true := by kernel_rfl
theorem k17 : (Rows.fnExactLatenessOfRow.wideKeys == (Tryd.f7.params.toList ++ Rows.fnExactLatenessOfSpec.plain.varTypes Tryd.prog ++ Tryd.f7.resultTypes.toList).any (Tryd.prog.wideKeysFrom ·)) = true := by kernel_rfl
theorem k18 : Rows.fnExactLatenessOfSpec.vars.all (Tryd.prog.varReadable ·) = true := by kernel_rfl
theorem k19 : Tryd.f7.resultTypes.all (fun t => Tryd.prog.readableRec t && decide (t < Tryd.prog.types.size)) = true := by kernel_rfl
theorem k20 : (Rows.fnExactLatenessOfRow.ifacesOut == Tryd.f7.resultTypes.toList.any (Tryd.prog.ifacesRec ·)) = true := by kernel_rfl
theorem k21 : (Rows.fnExactLatenessOfRow.loopsOut == Tryd.f7.resultTypes.toList.any (Tryd.prog.loopsFrom ·)) = true := by kernel_rfl
theorem k23 : Rows.fnExactLatenessOfRow.shortTexts.isNone = true := by kernel_rfl
theorem k28 : facts.kindsOf Tryd.prog Tryd.f7 Rows.fnExactLatenessOfRow = true := by kernel_rfl
theorem k29 : (Rows.fnExactLatenessOfRow.pinned == Rows.fnExactLatenessOfRow.pinnedBy) = true := by kernel_rfl
theorem k30 : (Rows.fnExactLatenessOfRow.veiled == (Tryd.f7.params.toList ++ Rows.fnExactLatenessOfSpec.plain.varTypes Tryd.prog ++ Tryd.f7.resultTypes.toList).any (Tryd.prog.veiledRec ·)) = true := by kernel_rfl
theorem k31 : Rows.fnExactLatenessOfRow.veiledFits Tryd.prog Tryd.f7.params.toList (Tryd.f7.params.toList ++ Rows.fnExactLatenessOfSpec.plain.varTypes Tryd.prog ++ Tryd.f7.resultTypes.toList) = true := by kernel_rfl
theorem named : Tryd.pinned.checked.prog.funcNamed Rows.fnExactLatenessOfRow.func = some 7 := by kernel_rfl
theorem inst : decide (Tryd.f7.isInstance Tryd.prog Rows.fnExactLatenessOfRow.origin Rows.fnExactLatenessOfRow.targs) = true := by kernel_rfl
theorem stand : (Tryd.f7.params.toList.all fun u => !Tryd.prog.wantsStandIn u) = true := by kernel_rfl
theorem wft : Rows.fnExactLatenessOfRow.wfByText (OpenSpec.ofChange Rows.fnExactLatenessOfSpec) = true := by kernel_rfl
theorem goes : false = Rows.fnExactLatenessOfRow.goesBy Tryd.pinned.checked.prog := by kernel_rfl
end Go.Proofs.YtajhdgoinghmmaaDoor.lawLatenessOf
