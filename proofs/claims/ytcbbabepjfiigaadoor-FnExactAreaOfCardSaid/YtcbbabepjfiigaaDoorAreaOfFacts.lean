/-
  THE LAW FnExactAreaOf: the facts of its row, each one by itself.
-/
import Derived.Test.YtcbbabepjfiigaaDoorCards
import Derived.Test.YtcbbabepjfiigaaDoorTie
import Derived.Test.YtcbbabepjfiigaaDoorJoined
import Derived.ProofKit
namespace Go.Proofs.YtcbbabepjfiigaaDoor.lawAreaOf
open Go
theorem k0 : Rows.fnExactAreaOfRow.wf (OpenSpec.ofChange Rows.fnExactAreaOfSpec) = true := by kernel_rfl
theorem k3 : Tryd.f6.params.all (Tryd.prog.readableRec ·) = true := by kernel_rfl
theorem k4 : namedTie Tryd.prog Rows.fnExactAreaOfRow.named Rows.fnExactAreaOfSpec.vars = true := by kernel_rfl
theorem k5 : (Rows.fnExactAreaOfRow.stops == []) = true := by kernel_rfl
theorem k7 : (Rows.fnExactAreaOfRow.knobs == []) = true := by kernel_rfl
theorem k9 : (Rows.fnExactAreaOfRow.inPlace == Tryd.prog.inPlace 6) = true := by kernel_rfl
theorem k10 : (Rows.fnExactAreaOfRow.unfollowed == Tryd.prog.unfollowed 6) = true := by kernel_rfl
theorem k11 : (Rows.fnExactAreaOfRow.recurses == Tryd.prog.recurses 6) = true := by kernel_rfl
theorem k12 : (Rows.fnExactAreaOfRow.named == Tryd.prog.varsNamed 6) = true := by kernel_rfl
theorem k13 : (Rows.fnExactAreaOfRow.maps == (Tryd.f6.params.toList ++ Rows.fnExactAreaOfSpec.plain.varTypes Tryd.prog).any (Tryd.prog.mapsRec ·)) = true := by kernel_rfl
theorem k14 : (Rows.fnExactAreaOfRow.ifaces == (Tryd.f6.params.toList ++ Rows.fnExactAreaOfSpec.plain.varTypes Tryd.prog).any (Tryd.prog.ifacesRec ·)) = true := by kernel_rfl
theorem k15 : (Rows.fnExactAreaOfRow.mapsOut == Tryd.prog.mapsAmong Tryd.f6.resultTypes.toList) = true := by kernel_rfl
theorem k16 : (Rows.fnExactAreaOfRow.loops == (Tryd.f6.params.toList ++ Rows.fnExactAreaOfSpec.plain.varTypes Tryd.prog).any (Tryd.prog.loopsFrom ·)) = true := by kernel_rfl
theorem k17 : (Rows.fnExactAreaOfRow.wideKeys == (Tryd.f6.params.toList ++ Rows.fnExactAreaOfSpec.plain.varTypes Tryd.prog ++ Tryd.f6.resultTypes.toList).any (Tryd.prog.wideKeysFrom ·)) = true := by kernel_rfl
theorem k18 : Rows.fnExactAreaOfSpec.vars.all (Tryd.prog.varReadable ·) = true := by kernel_rfl
theorem k19 : Tryd.f6.resultTypes.all (fun t => Tryd.prog.readableRec t && decide (t < Tryd.prog.types.size)) = true := by kernel_rfl
theorem k20 : (Rows.fnExactAreaOfRow.ifacesOut == Tryd.f6.resultTypes.toList.any (Tryd.prog.ifacesRec ·)) = true := by kernel_rfl
theorem k21 : (Rows.fnExactAreaOfRow.loopsOut == Tryd.f6.resultTypes.toList.any (Tryd.prog.loopsFrom ·)) = true := by kernel_rfl
theorem k23 : Rows.fnExactAreaOfRow.shortTexts.isNone = true := by kernel_rfl
theorem k28 : facts.kindsOf Tryd.prog Tryd.f6 Rows.fnExactAreaOfRow = true := by kernel_rfl
theorem k29 : (Rows.fnExactAreaOfRow.pinned == Rows.fnExactAreaOfRow.pinnedBy) = true := by kernel_rfl
theorem k30 : (Rows.fnExactAreaOfRow.veiled == (Tryd.f6.params.toList ++ Rows.fnExactAreaOfSpec.plain.varTypes Tryd.prog ++ Tryd.f6.resultTypes.toList).any (Tryd.prog.veiledRec ·)) = true := by kernel_rfl
theorem k31 : Rows.fnExactAreaOfRow.veiledFits Tryd.prog Tryd.f6.params.toList (Tryd.f6.params.toList ++ Rows.fnExactAreaOfSpec.plain.varTypes Tryd.prog ++ Tryd.f6.resultTypes.toList) = true := by kernel_rfl
theorem named : Tryd.pinned.checked.prog.funcNamed Rows.fnExactAreaOfRow.func = some 6 := by kernel_rfl
theorem inst : decide (Tryd.f6.isInstance Tryd.prog Rows.fnExactAreaOfRow.origin Rows.fnExactAreaOfRow.targs) = true := by kernel_rfl
theorem stand : (Tryd.f6.params.toList.all fun u => !Tryd.prog.wantsStandIn u) = true := by kernel_rfl
theorem wft : Rows.fnExactAreaOfRow.wfByText (OpenSpec.ofChange Rows.fnExactAreaOfSpec) = true := by kernel_rfl
theorem goes : false = Rows.fnExactAreaOfRow.goesBy Tryd.pinned.checked.prog := by kernel_rfl
end Go.Proofs.YtcbbabepjfiigaaDoor.lawAreaOf
