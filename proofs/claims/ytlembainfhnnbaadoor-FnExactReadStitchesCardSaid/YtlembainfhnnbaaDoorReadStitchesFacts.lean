/-
  THE LAW FnExactReadStitches: the facts of its row, each one by itself.
-/
import Derived.Test.YtlembainfhnnbaaDoorCards
import Derived.Test.YtlembainfhnnbaaDoorTie
import Derived.Test.YtlembainfhnnbaaDoorJoined
import Derived.ProofKit
namespace Go.Proofs.YtlembainfhnnbaaDoor.lawReadStitches
open Go
theorem k0 : Rows.fnExactReadStitchesRow.wf (OpenSpec.ofChange Rows.fnExactReadStitchesSpec) = true := by kernel_rfl
theorem k3 : Tryd.f6.params.all (Tryd.prog.readableRec ·) = true := by kernel_rfl
theorem k4 : namedTie Tryd.prog Rows.fnExactReadStitchesRow.named Rows.fnExactReadStitchesSpec.vars = true := by kernel_rfl
theorem k5 : (Rows.fnExactReadStitchesRow.stops == []) = true := by kernel_rfl
theorem k7 : (Rows.fnExactReadStitchesRow.knobs == []) = true := by kernel_rfl
theorem k9 : (Rows.fnExactReadStitchesRow.inPlace == Tryd.prog.inPlace 6) = true := by kernel_rfl
theorem k10 : (Rows.fnExactReadStitchesRow.unfollowed == Tryd.prog.unfollowed 6) = true := by kernel_rfl
theorem k11 : (Rows.fnExactReadStitchesRow.recurses == Tryd.prog.recurses 6) = true := by kernel_rfl
theorem k12 : (Rows.fnExactReadStitchesRow.named == Tryd.prog.varsNamed 6) = true := by kernel_rfl
theorem k13 : (Rows.fnExactReadStitchesRow.maps == (Tryd.f6.params.toList ++ Rows.fnExactReadStitchesSpec.plain.varTypes Tryd.prog).any (Tryd.prog.mapsRec ·)) = true := by kernel_rfl
theorem k14 : (Rows.fnExactReadStitchesRow.ifaces == (Tryd.f6.params.toList ++ Rows.fnExactReadStitchesSpec.plain.varTypes Tryd.prog).any (Tryd.prog.ifacesRec ·)) = true := by kernel_rfl
theorem k15 : (Rows.fnExactReadStitchesRow.mapsOut == Tryd.prog.mapsAmong Tryd.f6.resultTypes.toList) = true := by kernel_rfl
theorem k16 : (Rows.fnExactReadStitchesRow.loops == (Tryd.f6.params.toList ++ Rows.fnExactReadStitchesSpec.plain.varTypes Tryd.prog).any (Tryd.prog.loopsFrom ·)) = true := by kernel_rfl
theorem k17 : (Rows.fnExactReadStitchesRow.wideKeys == (Tryd.f6.params.toList ++ Rows.fnExactReadStitchesSpec.plain.varTypes Tryd.prog ++ Tryd.f6.resultTypes.toList).any (Tryd.prog.wideKeysFrom ·)) = true := by kernel_rfl
theorem k18 : Rows.fnExactReadStitchesSpec.vars.all (Tryd.prog.varReadable ·) = true := by kernel_rfl
theorem k19 : Tryd.f6.resultTypes.all (fun t => Tryd.prog.readableRec t && decide (t < Tryd.prog.types.size)) = true := by kernel_rfl
theorem k20 : (Rows.fnExactReadStitchesRow.ifacesOut == Tryd.f6.resultTypes.toList.any (Tryd.prog.ifacesRec ·)) = true := by kernel_rfl
theorem k21 : (Rows.fnExactReadStitchesRow.loopsOut == Tryd.f6.resultTypes.toList.any (Tryd.prog.loopsFrom ·)) = true := by kernel_rfl
theorem k23 : Rows.fnExactReadStitchesRow.shortTexts.isNone = true := by kernel_rfl
theorem k28 : facts.kindsOf Tryd.prog Tryd.f6 Rows.fnExactReadStitchesRow = true := by kernel_rfl
theorem k29 : (Rows.fnExactReadStitchesRow.pinned == Rows.fnExactReadStitchesRow.pinnedBy) = true := by kernel_rfl
theorem k30 : (Rows.fnExactReadStitchesRow.veiled == (Tryd.f6.params.toList ++ Rows.fnExactReadStitchesSpec.plain.varTypes Tryd.prog ++ Tryd.f6.resultTypes.toList).any (Tryd.prog.veiledRec ·)) = true := by kernel_rfl
theorem k31 : Rows.fnExactReadStitchesRow.veiledFits Tryd.prog Tryd.f6.params.toList (Tryd.f6.params.toList ++ Rows.fnExactReadStitchesSpec.plain.varTypes Tryd.prog ++ Tryd.f6.resultTypes.toList) = true := by kernel_rfl
theorem named : Tryd.pinned.checked.prog.funcNamed Rows.fnExactReadStitchesRow.func = some 6 := by kernel_rfl
theorem inst : decide (Tryd.f6.isInstance Tryd.prog Rows.fnExactReadStitchesRow.origin Rows.fnExactReadStitchesRow.targs) = true := by kernel_rfl
theorem stand : (Tryd.f6.params.toList.all fun u => !Tryd.prog.wantsStandIn u) = true := by kernel_rfl
theorem wft : Rows.fnExactReadStitchesRow.wfByText (OpenSpec.ofChange Rows.fnExactReadStitchesSpec) = true := by kernel_rfl
theorem goes : false = Rows.fnExactReadStitchesRow.goesBy Tryd.pinned.checked.prog := by kernel_rfl
end Go.Proofs.YtlembainfhnnbaaDoor.lawReadStitches
