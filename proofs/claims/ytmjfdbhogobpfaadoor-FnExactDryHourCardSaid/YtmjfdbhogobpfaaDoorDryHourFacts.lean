/-
  THE LAW FnExactDryHour: the facts of its row, each one by itself.
-/
import Derived.Test.YtmjfdbhogobpfaaDoorCards
import Derived.Test.YtmjfdbhogobpfaaDoorTie
import Derived.Test.YtmjfdbhogobpfaaDoorJoined
import Derived.ProofKit
namespace Go.Proofs.YtmjfdbhogobpfaaDoor.lawDryHour
open Go
theorem k0 : Rows.fnExactDryHourRow.wf (OpenSpec.ofChange Rows.fnExactDryHourSpec) = true := by kernel_rfl
theorem k3 : Tryd.f3.params.all (Tryd.prog.readableRec ·) = true := by kernel_rfl
theorem k4 : namedTie Tryd.prog Rows.fnExactDryHourRow.named Rows.fnExactDryHourSpec.vars = true := by kernel_rfl
theorem k5 : (Rows.fnExactDryHourRow.stops == []) = true := by kernel_rfl
theorem k7 : (Rows.fnExactDryHourRow.knobs == []) = true := by kernel_rfl
theorem k9 : (Rows.fnExactDryHourRow.inPlace == Tryd.prog.inPlace 3) = true := by kernel_rfl
theorem k10 : (Rows.fnExactDryHourRow.unfollowed == Tryd.prog.unfollowed 3) = true := by kernel_rfl
theorem k11 : (Rows.fnExactDryHourRow.recurses == Tryd.prog.recurses 3) = true := by kernel_rfl
theorem k12 : (Rows.fnExactDryHourRow.named == Tryd.prog.varsNamed 3) = true := by kernel_rfl
theorem k13 : (Rows.fnExactDryHourRow.maps == (Tryd.f3.params.toList ++ Rows.fnExactDryHourSpec.plain.varTypes Tryd.prog).any (Tryd.prog.mapsRec ·)) = true := by kernel_rfl
theorem k14 : (Rows.fnExactDryHourRow.ifaces == (Tryd.f3.params.toList ++ Rows.fnExactDryHourSpec.plain.varTypes Tryd.prog).any (Tryd.prog.ifacesRec ·)) = true := by kernel_rfl
theorem k15 : (Rows.fnExactDryHourRow.mapsOut == Tryd.prog.mapsAmong Tryd.f3.resultTypes.toList) = true := by kernel_rfl
theorem k16 : (Rows.fnExactDryHourRow.loops == (Tryd.f3.params.toList ++ Rows.fnExactDryHourSpec.plain.varTypes Tryd.prog).any (Tryd.prog.loopsFrom ·)) = true := by kernel_rfl
theorem k17 : (Rows.fnExactDryHourRow.wideKeys == (Tryd.f3.params.toList ++ Rows.fnExactDryHourSpec.plain.varTypes Tryd.prog ++ Tryd.f3.resultTypes.toList).any (Tryd.prog.wideKeysFrom ·)) = true := by kernel_rfl
theorem k18 : Rows.fnExactDryHourSpec.vars.all (Tryd.prog.varReadable ·) = true := by kernel_rfl
theorem k19 : Tryd.f3.resultTypes.all (fun t => Tryd.prog.readableRec t && decide (t < Tryd.prog.types.size)) = true := by kernel_rfl
theorem k20 : (Rows.fnExactDryHourRow.ifacesOut == Tryd.f3.resultTypes.toList.any (Tryd.prog.ifacesRec ·)) = true := by kernel_rfl
theorem k21 : (Rows.fnExactDryHourRow.loopsOut == Tryd.f3.resultTypes.toList.any (Tryd.prog.loopsFrom ·)) = true := by kernel_rfl
theorem k23 : Rows.fnExactDryHourRow.shortTexts.isNone = true := by kernel_rfl
theorem k28 : facts.kindsOf Tryd.prog Tryd.f3 Rows.fnExactDryHourRow = true := by kernel_rfl
theorem k29 : (Rows.fnExactDryHourRow.pinned == Rows.fnExactDryHourRow.pinnedBy) = true := by kernel_rfl
theorem k30 : (Rows.fnExactDryHourRow.veiled == (Tryd.f3.params.toList ++ Rows.fnExactDryHourSpec.plain.varTypes Tryd.prog ++ Tryd.f3.resultTypes.toList).any (Tryd.prog.veiledRec ·)) = true := by kernel_rfl
theorem k31 : Rows.fnExactDryHourRow.veiledFits Tryd.prog Tryd.f3.params.toList (Tryd.f3.params.toList ++ Rows.fnExactDryHourSpec.plain.varTypes Tryd.prog ++ Tryd.f3.resultTypes.toList) = true := by kernel_rfl
theorem named : Tryd.pinned.checked.prog.funcNamed Rows.fnExactDryHourRow.func = some 3 := by kernel_rfl
theorem inst : decide (Tryd.f3.isInstance Tryd.prog Rows.fnExactDryHourRow.origin Rows.fnExactDryHourRow.targs) = true := by kernel_rfl
theorem stand : (Tryd.f3.params.toList.all fun u => !Tryd.prog.wantsStandIn u) = true := by kernel_rfl
theorem wft : Rows.fnExactDryHourRow.wfByText (OpenSpec.ofChange Rows.fnExactDryHourSpec) = true := by kernel_rfl
theorem goes : false = Rows.fnExactDryHourRow.goesBy Tryd.pinned.checked.prog := by kernel_rfl
end Go.Proofs.YtmjfdbhogobpfaaDoor.lawDryHour
