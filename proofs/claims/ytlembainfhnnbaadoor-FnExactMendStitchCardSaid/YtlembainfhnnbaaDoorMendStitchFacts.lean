/-
  THE LAW FnExactMendStitch: the facts of its row, each one by itself.
-/
import Derived.Test.YtlembainfhnnbaaDoorCards
import Derived.Test.YtlembainfhnnbaaDoorTie
import Derived.Test.YtlembainfhnnbaaDoorJoined
import Derived.ProofKit
namespace Go.Proofs.YtlembainfhnnbaaDoor.lawMendStitch
open Go
theorem k0 : Rows.fnExactMendStitchRow.wf (OpenSpec.ofChange Rows.fnExactMendStitchSpec) = true := by kernel_rfl
theorem k3 : Tryd.f9.params.all (Tryd.prog.readableRec ·) = true := by kernel_rfl
theorem k4 : namedTie Tryd.prog Rows.fnExactMendStitchRow.named Rows.fnExactMendStitchSpec.vars = true := by kernel_rfl
theorem k5 : (Rows.fnExactMendStitchRow.stops == []) = true := by kernel_rfl
theorem k7 : (Rows.fnExactMendStitchRow.knobs == []) = true := by kernel_rfl
theorem k9 : (Rows.fnExactMendStitchRow.inPlace == Tryd.prog.inPlace 9) = true := by kernel_rfl
theorem k10 : (Rows.fnExactMendStitchRow.unfollowed == Tryd.prog.unfollowed 9) = true := by kernel_rfl
theorem k11 : (Rows.fnExactMendStitchRow.recurses == Tryd.prog.recurses 9) = true := by kernel_rfl
theorem k12 : (Rows.fnExactMendStitchRow.named == Tryd.prog.varsNamed 9) = true := by kernel_rfl
theorem k13 : (Rows.fnExactMendStitchRow.maps == (Tryd.f9.params.toList ++ Rows.fnExactMendStitchSpec.plain.varTypes Tryd.prog).any (Tryd.prog.mapsRec ·)) = true := by kernel_rfl
theorem k14 : (Rows.fnExactMendStitchRow.ifaces == (Tryd.f9.params.toList ++ Rows.fnExactMendStitchSpec.plain.varTypes Tryd.prog).any (Tryd.prog.ifacesRec ·)) = true := by kernel_rfl
theorem k15 : (Rows.fnExactMendStitchRow.mapsOut == Tryd.prog.mapsAmong Tryd.f9.resultTypes.toList) = true := by kernel_rfl
theorem k16 : (Rows.fnExactMendStitchRow.loops == (Tryd.f9.params.toList ++ Rows.fnExactMendStitchSpec.plain.varTypes Tryd.prog).any (Tryd.prog.loopsFrom ·)) = true := by kernel_rfl
theorem k17 : (Rows.fnExactMendStitchRow.wideKeys == (Tryd.f9.params.toList ++ Rows.fnExactMendStitchSpec.plain.varTypes Tryd.prog ++ Tryd.f9.resultTypes.toList).any (Tryd.prog.wideKeysFrom ·)) = true := by kernel_rfl
theorem k18 : Rows.fnExactMendStitchSpec.vars.all (Tryd.prog.varReadable ·) = true := by kernel_rfl
theorem k19 : Tryd.f9.resultTypes.all (fun t => Tryd.prog.readableRec t && decide (t < Tryd.prog.types.size)) = true := by kernel_rfl
theorem k20 : (Rows.fnExactMendStitchRow.ifacesOut == Tryd.f9.resultTypes.toList.any (Tryd.prog.ifacesRec ·)) = true := by kernel_rfl
theorem k21 : (Rows.fnExactMendStitchRow.loopsOut == Tryd.f9.resultTypes.toList.any (Tryd.prog.loopsFrom ·)) = true := by kernel_rfl
theorem k23 : Rows.fnExactMendStitchRow.shortTexts.isNone = true := by kernel_rfl
theorem k28 : facts.kindsOf Tryd.prog Tryd.f9 Rows.fnExactMendStitchRow = true := by kernel_rfl
theorem k29 : (Rows.fnExactMendStitchRow.pinned == Rows.fnExactMendStitchRow.pinnedBy) = true := by kernel_rfl
theorem k30 : (Rows.fnExactMendStitchRow.veiled == (Tryd.f9.params.toList ++ Rows.fnExactMendStitchSpec.plain.varTypes Tryd.prog ++ Tryd.f9.resultTypes.toList).any (Tryd.prog.veiledRec ·)) = true := by kernel_rfl
theorem k31 : Rows.fnExactMendStitchRow.veiledFits Tryd.prog Tryd.f9.params.toList (Tryd.f9.params.toList ++ Rows.fnExactMendStitchSpec.plain.varTypes Tryd.prog ++ Tryd.f9.resultTypes.toList) = true := by kernel_rfl
theorem named : Tryd.pinned.checked.prog.funcNamed Rows.fnExactMendStitchRow.func = some 9 := by kernel_rfl
theorem inst : decide (Tryd.f9.isInstance Tryd.prog Rows.fnExactMendStitchRow.origin Rows.fnExactMendStitchRow.targs) = true := by kernel_rfl
theorem stand : (Tryd.f9.params.toList.all fun u => !Tryd.prog.wantsStandIn u) = true := by kernel_rfl
theorem wft : Rows.fnExactMendStitchRow.wfByText (OpenSpec.ofChange Rows.fnExactMendStitchSpec) = true := by kernel_rfl
theorem goes : false = Rows.fnExactMendStitchRow.goesBy Tryd.pinned.checked.prog := by kernel_rfl
end Go.Proofs.YtlembainfhnnbaaDoor.lawMendStitch
