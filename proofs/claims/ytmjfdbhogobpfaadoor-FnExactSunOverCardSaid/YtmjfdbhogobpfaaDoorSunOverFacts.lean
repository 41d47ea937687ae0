/-
  THE LAW FnExactSunOver: the facts of its row, each one by itself.
-/
import Derived.Test.YtmjfdbhogobpfaaDoorCards
import Derived.Test.YtmjfdbhogobpfaaDoorTie
import Derived.Test.YtmjfdbhogobpfaaDoorJoined
import Derived.ProofKit
namespace Go.Proofs.YtmjfdbhogobpfaaDoor.lawSunOver
open Go
theorem k0 : Rows.fnExactSunOverRow.wf (OpenSpec.ofChange Rows.fnExactSunOverSpec) = true := by kernel_rfl
theorem k3 : Tryd.f6.params.all (Tryd.prog.readableRec ·) = true := by kernel_rfl
theorem k4 : namedTie Tryd.prog Rows.fnExactSunOverRow.named Rows.fnExactSunOverSpec.vars = true := by kernel_rfl
theorem k5 : (Rows.fnExactSunOverRow.stops == []) = true := by kernel_rfl
theorem k7 : (Rows.fnExactSunOverRow.knobs == []) = true := by kernel_rfl
theorem k9 : (Rows.fnExactSunOverRow.inPlace == Tryd.prog.inPlace 6) = true := by kernel_rfl
theorem k10 : (Rows.fnExactSunOverRow.unfollowed == Tryd.prog.unfollowed 6) = true := by kernel_rfl
theorem k11 : (Rows.fnExactSunOverRow.recurses == Tryd.prog.recurses 6) = true := by kernel_rfl
theorem k12 : (Rows.fnExactSunOverRow.named == Tryd.prog.varsNamed 6) = true := by kernel_rfl
theorem k13 : (Rows.fnExactSunOverRow.maps == (Tryd.f6.params.toList ++ Rows.fnExactSunOverSpec.plain.varTypes Tryd.prog).any (Tryd.prog.mapsRec ·)) = true := by kernel_rfl
theorem k14 : (Rows.fnExactSunOverRow.ifaces == (Tryd.f6.params.toList ++ Rows.fnExactSunOverSpec.plain.varTypes Tryd.prog).any (Tryd.prog.ifacesRec ·)) = true := by kernel_rfl
theorem k15 : (Rows.fnExactSunOverRow.mapsOut == Tryd.prog.mapsAmong Tryd.f6.resultTypes.toList) = true := by kernel_rfl
theorem k16 : (Rows.fnExactSunOverRow.loops == (Tryd.f6.params.toList ++ Rows.fnExactSunOverSpec.plain.varTypes Tryd.prog).any (Tryd.prog.loopsFrom ·)) = true := by kernel_rfl
theorem k17 : (Rows.fnExactSunOverRow.wideKeys == (Tryd.f6.params.toList ++ Rows.fnExactSunOverSpec.plain.varTypes Tryd.prog ++ Tryd.f6.resultTypes.toList).any (Tryd.prog.wideKeysFrom ·)) = true := by kernel_rfl
theorem k18 : Rows.fnExactSunOverSpec.vars.all (Tryd.prog.varReadable ·) = true := by kernel_rfl
theorem k19 : Tryd.f6.resultTypes.all (fun t => Tryd.prog.readableRec t && decide (t < Tryd.prog.types.size)) = true := by kernel_rfl
theorem k20 : (Rows.fnExactSunOverRow.ifacesOut == Tryd.f6.resultTypes.toList.any (Tryd.prog.ifacesRec ·)) = true := by kernel_rfl
theorem k21 : (Rows.fnExactSunOverRow.loopsOut == Tryd.f6.resultTypes.toList.any (Tryd.prog.loopsFrom ·)) = true := by kernel_rfl
theorem k23 : Rows.fnExactSunOverRow.shortTexts.isNone = true := by kernel_rfl
theorem k28 : facts.kindsOf Tryd.prog Tryd.f6 Rows.fnExactSunOverRow = true := by kernel_rfl
theorem k29 : (Rows.fnExactSunOverRow.pinned == Rows.fnExactSunOverRow.pinnedBy) = true := by kernel_rfl
theorem k30 : (Rows.fnExactSunOverRow.veiled == (Tryd.f6.params.toList ++ Rows.fnExactSunOverSpec.plain.varTypes Tryd.prog ++ Tryd.f6.resultTypes.toList).any (Tryd.prog.veiledRec ·)) = true := by kernel_rfl
theorem k31 : Rows.fnExactSunOverRow.veiledFits Tryd.prog Tryd.f6.params.toList (Tryd.f6.params.toList ++ Rows.fnExactSunOverSpec.plain.varTypes Tryd.prog ++ Tryd.f6.resultTypes.toList) = true := by kernel_rfl
theorem named : Tryd.pinned.checked.prog.funcNamed Rows.fnExactSunOverRow.func = some 6 := by kernel_rfl
theorem inst : decide (Tryd.f6.isInstance Tryd.prog Rows.fnExactSunOverRow.origin Rows.fnExactSunOverRow.targs) = true := by kernel_rfl
theorem stand : (Tryd.f6.params.toList.all fun u => !Tryd.prog.wantsStandIn u) = true := by kernel_rfl
theorem wft : Rows.fnExactSunOverRow.wfByText (OpenSpec.ofChange Rows.fnExactSunOverSpec) = true := by kernel_rfl
theorem goes : false = Rows.fnExactSunOverRow.goesBy Tryd.pinned.checked.prog := by kernel_rfl
end Go.Proofs.YtmjfdbhogobpfaaDoor.lawSunOver
