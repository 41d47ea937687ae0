/-
  THE LAW FnExactLongestDry: the facts of its row, each one by itself.
-/
import Derived.Test.YtmjfdbhogobpfaaDoorCards
import Derived.Test.YtmjfdbhogobpfaaDoorTie
import Derived.Test.YtmjfdbhogobpfaaDoorJoined
import Derived.ProofKit
namespace Go.Proofs.YtmjfdbhogobpfaaDoor.lawLongestDry
open Go
theorem k0 : Rows.fnExactLongestDryRow.wf (OpenSpec.ofChange Rows.fnExactLongestDrySpec) = true := by kernel_rfl
theorem k3 : Tryd.f5.params.all (Tryd.prog.readableRec ·) = true := by kernel_rfl
theorem k4 : namedTie Tryd.prog Rows.fnExactLongestDryRow.named Rows.fnExactLongestDrySpec.vars = true := by kernel_rfl
theorem k5 : (Rows.fnExactLongestDryRow.stops == []) = true := by kernel_rfl
theorem k7 : (Rows.fnExactLongestDryRow.knobs == []) = true := by kernel_rfl
theorem k9 : (Rows.fnExactLongestDryRow.inPlace == Tryd.prog.inPlace 5) = true := by kernel_rfl
theorem k10 : (Rows.fnExactLongestDryRow.unfollowed == Tryd.prog.unfollowed 5) = true := by kernel_rfl
theorem k11 : (Rows.fnExactLongestDryRow.recurses == Tryd.prog.recurses 5) = true := by kernel_rfl
theorem k12 : (Rows.fnExactLongestDryRow.named == Tryd.prog.varsNamed 5) = true := by kernel_rfl
theorem k13 : (Rows.fnExactLongestDryRow.maps == (Tryd.f5.params.toList ++ Rows.fnExactLongestDrySpec.plain.varTypes Tryd.prog).any (Tryd.prog.mapsRec ·)) = true := by kernel_rfl
theorem k14 : (Rows.fnExactLongestDryRow.ifaces == (Tryd.f5.params.toList ++ Rows.fnExactLongestDrySpec.plain.varTypes Tryd.prog).any (Tryd.prog.ifacesRec ·)) = true := by kernel_rfl
theorem k15 : (Rows.fnExactLongestDryRow.mapsOut == Tryd.prog.mapsAmong Tryd.f5.resultTypes.toList) = true := by kernel_rfl
theorem k16 : (Rows.fnExactLongestDryRow.loops == (Tryd.f5.params.toList ++ Rows.fnExactLongestDrySpec.plain.varTypes Tryd.prog).any (Tryd.prog.loopsFrom ·)) = true := by kernel_rfl
theorem k17 : (Rows.fnExactLongestDryRow.wideKeys == (Tryd.f5.params.toList ++ Rows.fnExactLongestDrySpec.plain.varTypes Tryd.prog ++ Tryd.f5.resultTypes.toList).any (Tryd.prog.wideKeysFrom ·)) = true := by kernel_rfl
theorem k18 : Rows.fnExactLongestDrySpec.vars.all (Tryd.prog.varReadable ·) = true := by kernel_rfl
theorem k19 : Tryd.f5.resultTypes.all (fun t => Tryd.prog.readableRec t && decide (t < Tryd.prog.types.size)) = true := by kernel_rfl
theorem k20 : (Rows.fnExactLongestDryRow.ifacesOut == Tryd.f5.resultTypes.toList.any (Tryd.prog.ifacesRec ·)) = true := by kernel_rfl
theorem k21 : (Rows.fnExactLongestDryRow.loopsOut == Tryd.f5.resultTypes.toList.any (Tryd.prog.loopsFrom ·)) = true := by kernel_rfl
theorem k23 : Rows.fnExactLongestDryRow.shortTexts.isNone = true := by kernel_rfl
theorem k28 : facts.kindsOf Tryd.prog Tryd.f5 Rows.fnExactLongestDryRow = true := by kernel_rfl
theorem k29 : (Rows.fnExactLongestDryRow.pinned == Rows.fnExactLongestDryRow.pinnedBy) = true := by kernel_rfl
theorem k30 : (Rows.fnExactLongestDryRow.veiled == (Tryd.f5.params.toList ++ Rows.fnExactLongestDrySpec.plain.varTypes Tryd.prog ++ Tryd.f5.resultTypes.toList).any (Tryd.prog.veiledRec ·)) = true := by kernel_rfl
theorem k31 : Rows.fnExactLongestDryRow.veiledFits Tryd.prog Tryd.f5.params.toList (Tryd.f5.params.toList ++ Rows.fnExactLongestDrySpec.plain.varTypes Tryd.prog ++ Tryd.f5.resultTypes.toList) = true := by kernel_rfl
theorem named : Tryd.pinned.checked.prog.funcNamed Rows.fnExactLongestDryRow.func = some 5 := by kernel_rfl
theorem inst : decide (Tryd.f5.isInstance Tryd.prog Rows.fnExactLongestDryRow.origin Rows.fnExactLongestDryRow.targs) = true := by kernel_rfl
theorem stand : (Tryd.f5.params.toList.all fun u => !Tryd.prog.wantsStandIn u) = true := by kernel_rfl
theorem wft : Rows.fnExactLongestDryRow.wfByText (OpenSpec.ofChange Rows.fnExactLongestDrySpec) = true := by kernel_rfl
theorem goes : false = Rows.fnExactLongestDryRow.goesBy Tryd.pinned.checked.prog := by kernel_rfl
end Go.Proofs.YtmjfdbhogobpfaaDoor.lawLongestDry
