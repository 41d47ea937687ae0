/-
  THE LAW FnExactUseKind: the facts of its row, each one by itself.
-/
import Derived.Test.YtfnlgpnocodonaaDoorCards
import Derived.Test.YtfnlgpnocodonaaDoorTie
import Derived.Test.YtfnlgpnocodonaaDoorJoined
import Derived.ProofKit
namespace Go.Proofs.YtfnlgpnocodonaaDoor.lawUseKind
open Go
theorem k0 : Rows.fnExactUseKindRow.wf (OpenSpec.ofChange Rows.fnExactUseKindSpec) = true := by kernel_rfl
theorem k3 : Tryd.f6.params.all (Tryd.prog.readableRec ·) = true := by kernel_rfl
theorem k4 : namedTie Tryd.prog Rows.fnExactUseKindRow.named Rows.fnExactUseKindSpec.vars = true := by kernel_rfl
theorem k5 : (Rows.fnExactUseKindRow.stops == []) = true := by kernel_rfl
theorem k7 : (Rows.fnExactUseKindRow.knobs == []) = true := by kernel_rfl
theorem k9 : (Rows.fnExactUseKindRow.inPlace == Tryd.prog.inPlace 6) = true := by kernel_rfl
theorem k10 : (Rows.fnExactUseKindRow.unfollowed == Tryd.prog.unfollowed 6) = true := by kernel_rfl
theorem k11 : (Rows.fnExactUseKindRow.recurses == Tryd.prog.recurses 6) = true := by kernel_rfl
theorem k12 : (Rows.fnExactUseKindRow.named == Tryd.prog.varsNamed 6) = true := by kernel_rfl
theorem k13 : (Rows.fnExactUseKindRow.maps == (Tryd.f6.params.toList ++ Rows.fnExactUseKindSpec.plain.varTypes Tryd.prog).any (Tryd.prog.mapsRec ·)) = true := by kernel_rfl
theorem k14 : (Rows.fnExactUseKindRow.ifaces == (Tryd.f6.params.toList ++ Rows.fnExactUseKindSpec.plain.varTypes Tryd.prog).any (Tryd.prog.ifacesRec ·)) = true := by kernel_rfl
theorem k15 : (Rows.fnExactUseKindRow.mapsOut == Tryd.prog.mapsAmong Tryd.f6.resultTypes.toList) = true := by kernel_rfl
theorem k16 : (Rows.fnExactUseKindRow.loops == (Tryd.f6.params.toList ++ Rows.fnExactUseKindSpec.plain.varTypes Tryd.prog).any (Tryd.prog.loopsFrom ·)) = true := by kernel_rfl
theorem k17 : (Rows.fnExactUseKindRow.wideKeys == (Tryd.f6.params.toList ++ Rows.fnExactUseKindSpec.plain.varTypes Tryd.prog ++ Tryd.f6.resultTypes.toList).any (Tryd.prog.wideKeysFrom ·)) = true := by kernel_rfl
theorem k18 : Rows.fnExactUseKindSpec.vars.all (Tryd.prog.varReadable ·) = true := by kernel_rfl
theorem k19 : Tryd.f6.resultTypes.all (fun t => Tryd.prog.readableRec t && decide (t < Tryd.prog.types.size)) = true := by kernel_rfl
theorem k20 : (Rows.fnExactUseKindRow.ifacesOut == Tryd.f6.resultTypes.toList.any (Tryd.prog.ifacesRec ·)) = true := by kernel_rfl
theorem k21 : (Rows.fnExactUseKindRow.loopsOut == Tryd.f6.resultTypes.toList.any (Tryd.prog.loopsFrom ·)) = true := by kernel_rfl
theorem k23 : Rows.fnExactUseKindRow.shortTexts.isNone = true := by kernel_rfl
theorem k28 : facts.kindsOf Tryd.prog Tryd.f6 Rows.fnExactUseKindRow = true := by kernel_rfl
theorem k29 : (Rows.fnExactUseKindRow.pinned == Rows.fnExactUseKindRow.pinnedBy) = true := by kernel_rfl
theorem k30 : (Rows.fnExactUseKindRow.veiled == (Tryd.f6.params.toList ++ Rows.fnExactUseKindSpec.plain.varTypes Tryd.prog ++ Tryd.f6.resultTypes.toList).any (Tryd.prog.veiledRec ·)) = true := by kernel_rfl
theorem k31 : Rows.fnExactUseKindRow.veiledFits Tryd.prog Tryd.f6.params.toList (Tryd.f6.params.toList ++ Rows.fnExactUseKindSpec.plain.varTypes Tryd.prog ++ Tryd.f6.resultTypes.toList) = true := by kernel_rfl
theorem named : Tryd.pinned.checked.prog.funcNamed Rows.fnExactUseKindRow.func = some 6 := by kernel_rfl
theorem inst : decide (Tryd.f6.isInstance Tryd.prog Rows.fnExactUseKindRow.origin Rows.fnExactUseKindRow.targs) = true := by kernel_rfl
theorem stand : (Tryd.f6.params.toList.all fun u => !Tryd.prog.wantsStandIn u) = true := by kernel_rfl
theorem wft : Rows.fnExactUseKindRow.wfByText (OpenSpec.ofChange Rows.fnExactUseKindSpec) = true := by kernel_rfl
theorem goes : false = Rows.fnExactUseKindRow.goesBy Tryd.pinned.checked.prog := by kernel_rfl
end Go.Proofs.YtfnlgpnocodonaaDoor.lawUseKind
