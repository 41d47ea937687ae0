/-
  THE LAW FnExactRainFrom: the facts of its row, each one by itself.
-/
import Derived.Test.YtmjfdbhogobpfaaDoorCards
import Derived.Test.YtmjfdbhogobpfaaDoorTie
import Derived.Test.YtmjfdbhogobpfaaDoorJoined
import Derived.ProofKit
namespace Go.Proofs.YtmjfdbhogobpfaaDoor.lawRainFrom
open Go
theorem k0 : Rows.fnExactRainFromRow.wf (OpenSpec.ofChange Rows.fnExactRainFromSpec) = true := by kernel_rfl
theorem k3 : Tryd.f4.params.all (Tryd.prog.readableRec ·) = true := by kernel_rfl
theorem k4 : namedTie Tryd.prog Rows.fnExactRainFromRow.named Rows.fnExactRainFromSpec.vars = true := by kernel_rfl
theorem k5 : (Rows.fnExactRainFromRow.stops == []) = true := by kernel_rfl
theorem k7 : (Rows.fnExactRainFromRow.knobs == []) = true := by kernel_rfl
theorem k9 : (Rows.fnExactRainFromRow.inPlace == Tryd.prog.inPlace 4) = true := by kernel_rfl
theorem k10 : (Rows.fnExactRainFromRow.unfollowed == Tryd.prog.unfollowed 4) = true := by kernel_rfl
theorem k11 : (Rows.fnExactRainFromRow.recurses == Tryd.prog.recurses 4) = true := by kernel_rfl
theorem k12 : (Rows.fnExactRainFromRow.named == Tryd.prog.varsNamed 4) = true := by kernel_rfl
theorem k13 : (Rows.fnExactRainFromRow.maps == (Tryd.f4.params.toList ++ Rows.fnExactRainFromSpec.plain.varTypes Tryd.prog).any (Tryd.prog.mapsRec ·)) = true := by kernel_rfl
theorem k14 : (Rows.fnExactRainFromRow.ifaces == (Tryd.f4.params.toList ++ Rows.fnExactRainFromSpec.plain.varTypes Tryd.prog).any (Tryd.prog.ifacesRec ·)) = true := by kernel_rfl
theorem k15 : (Rows.fnExactRainFromRow.mapsOut == Tryd.prog.mapsAmong Tryd.f4.resultTypes.toList) = true := by kernel_rfl
theorem k16 : (Rows.fnExactRainFromRow.loops == (Tryd.f4.params.toList ++ Rows.fnExactRainFromSpec.plain.varTypes Tryd.prog).any (Tryd.prog.loopsFrom ·)) = true := by kernel_rfl
theorem k17 : (Rows.fnExactRainFromRow.wideKeys == (Tryd.f4.params.toList ++ Rows.fnExactRainFromSpec.plain.varTypes Tryd.prog ++ Tryd.f4.resultTypes.toList).any (Tryd.prog.wideKeysFrom ·)) = true := by kernel_rfl
theorem k18 : Rows.fnExactRainFromSpec.vars.all (Tryd.prog.varReadable ·) = true := by kernel_rfl
theorem k19 : Tryd.f4.resultTypes.all (fun t => Tryd.prog.readableRec t && decide (t < Tryd.prog.types.size)) = true := by kernel_rfl
theorem k20 : (Rows.fnExactRainFromRow.ifacesOut == Tryd.f4.resultTypes.toList.any (Tryd.prog.ifacesRec ·)) = true := by kernel_rfl
theorem k21 : (Rows.fnExactRainFromRow.loopsOut == Tryd.f4.resultTypes.toList.any (Tryd.prog.loopsFrom ·)) = true := by kernel_rfl
theorem k23 : Rows.fnExactRainFromRow.shortTexts.isNone = true := by kernel_rfl
theorem k28 : facts.kindsOf Tryd.prog Tryd.f4 Rows.fnExactRainFromRow = true := by kernel_rfl
theorem k29 : (Rows.fnExactRainFromRow.pinned == Rows.fnExactRainFromRow.pinnedBy) = true := by kernel_rfl
theorem k30 : (Rows.fnExactRainFromRow.veiled == (Tryd.f4.params.toList ++ Rows.fnExactRainFromSpec.plain.varTypes Tryd.prog ++ Tryd.f4.resultTypes.toList).any (Tryd.prog.veiledRec ·)) = true := by kernel_rfl
theorem k31 : Rows.fnExactRainFromRow.veiledFits Tryd.prog Tryd.f4.params.toList (Tryd.f4.params.toList ++ Rows.fnExactRainFromSpec.plain.varTypes Tryd.prog ++ Tryd.f4.resultTypes.toList) = true := by kernel_rfl
theorem named : Tryd.pinned.checked.prog.funcNamed Rows.fnExactRainFromRow.func = some 4 := by kernel_rfl
theorem inst : decide (Tryd.f4.isInstance Tryd.prog Rows.fnExactRainFromRow.origin Rows.fnExactRainFromRow.targs) = true := by kernel_rfl
theorem stand : (Tryd.f4.params.toList.all fun u => !Tryd.prog.wantsStandIn u) = true := by kernel_rfl
theorem wft : Rows.fnExactRainFromRow.wfByText (OpenSpec.ofChange Rows.fnExactRainFromSpec) = true := by kernel_rfl
theorem goes : false = Rows.fnExactRainFromRow.goesBy Tryd.pinned.checked.prog := by kernel_rfl
end Go.Proofs.YtmjfdbhogobpfaaDoor.lawRainFrom
