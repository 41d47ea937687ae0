/-
  THE LAW FnExactFirstClash: the facts of its row, each one by itself.
-/
import Derived.Test.YtlembainfhnnbaaDoorCards
import Derived.Test.YtlembainfhnnbaaDoorTie
import Derived.Test.YtlembainfhnnbaaDoorJoined
import Derived.ProofKit
namespace Go.Proofs.YtlembainfhnnbaaDoor.lawFirstClash
open Go
theorem k0 : Rows.fnExactFirstClashRow.wf (OpenSpec.ofChange Rows.fnExactFirstClashSpec) = true := by kernel_rfl
theorem k3 : Tryd.f5.params.all (Tryd.prog.readableRec ·) = true := by kernel_rfl
theorem k4 : namedTie Tryd.prog Rows.fnExactFirstClashRow.named Rows.fnExactFirstClashSpec.vars = true := by kernel_rfl
theorem k5 : (Rows.fnExactFirstClashRow.stops == []) = true := by kernel_rfl
theorem k7 : (Rows.fnExactFirstClashRow.knobs == []) = true := by kernel_rfl
theorem k9 : (Rows.fnExactFirstClashRow.inPlace == Tryd.prog.inPlace 5) = true := by kernel_rfl
theorem k10 : (Rows.fnExactFirstClashRow.unfollowed == Tryd.prog.unfollowed 5) = true := by kernel_rfl
theorem k11 : (Rows.fnExactFirstClashRow.recurses == Tryd.prog.recurses 5) = true := by kernel_rfl
theorem k12 : (Rows.fnExactFirstClashRow.named == Tryd.prog.varsNamed 5) = true := by kernel_rfl
theorem k13 : (Rows.fnExactFirstClashRow.maps == (Tryd.f5.params.toList ++ Rows.fnExactFirstClashSpec.plain.varTypes Tryd.prog).any (Tryd.prog.mapsRec ·)) = true := by kernel_rfl
theorem k14 : (Rows.fnExactFirstClashRow.ifaces == (Tryd.f5.params.toList ++ Rows.fnExactFirstClashSpec.plain.varTypes Tryd.prog).any (Tryd.prog.ifacesRec ·)) = true := by kernel_rfl
theorem k15 : (Rows.fnExactFirstClashRow.mapsOut == Tryd.prog.mapsAmong Tryd.f5.resultTypes.toList) = true := by kernel_rfl
theorem k16 : (Rows.fnExactFirstClashRow.loops == (Tryd.f5.params.toList ++ Rows.fnExactFirstClashSpec.plain.varTypes Tryd.prog).any (Tryd.prog.loopsFrom ·)) = true := by kernel_rfl
theorem k17 : (Rows.fnExactFirstClashRow.wideKeys == (Tryd.f5.params.toList ++ Rows.fnExactFirstClashSpec.plain.varTypes Tryd.prog ++ Tryd.f5.resultTypes.toList).any (Tryd.prog.wideKeysFrom ·)) = true := by kernel_rfl
theorem k18 : Rows.fnExactFirstClashSpec.vars.all (Tryd.prog.varReadable ·) = true := by kernel_rfl
theorem k19 : Tryd.f5.resultTypes.all (fun t => Tryd.prog.readableRec t && decide (t < Tryd.prog.types.size)) = true := by kernel_rfl
theorem k20 : (Rows.fnExactFirstClashRow.ifacesOut == Tryd.f5.resultTypes.toList.any (Tryd.prog.ifacesRec ·)) = true := by kernel_rfl
theorem k21 : (Rows.fnExactFirstClashRow.loopsOut == Tryd.f5.resultTypes.toList.any (Tryd.prog.loopsFrom ·)) = true := by kernel_rfl
theorem k23 : Rows.fnExactFirstClashRow.shortTexts.isNone = true := by kernel_rfl
theorem k28 : facts.kindsOf Tryd.prog Tryd.f5 Rows.fnExactFirstClashRow = true := by kernel_rfl
theorem k29 : (Rows.fnExactFirstClashRow.pinned == Rows.fnExactFirstClashRow.pinnedBy) = true := by kernel_rfl
theorem k30 : (Rows.fnExactFirstClashRow.veiled == (Tryd.f5.params.toList ++ Rows.fnExactFirstClashSpec.plain.varTypes Tryd.prog ++ Tryd.f5.resultTypes.toList).any (Tryd.prog.veiledRec ·)) = true := by kernel_rfl
theorem k31 : Rows.fnExactFirstClashRow.veiledFits Tryd.prog Tryd.f5.params.toList (Tryd.f5.params.toList ++ Rows.fnExactFirstClashSpec.plain.varTypes Tryd.prog ++ Tryd.f5.resultTypes.toList) = true := by kernel_rfl
theorem named : Tryd.pinned.checked.prog.funcNamed Rows.fnExactFirstClashRow.func = some 5 := by kernel_rfl
theorem inst : decide (Tryd.f5.isInstance Tryd.prog Rows.fnExactFirstClashRow.origin Rows.fnExactFirstClashRow.targs) = true := by kernel_rfl
theorem stand : (Tryd.f5.params.toList.all fun u => !Tryd.prog.wantsStandIn u) = true := by kernel_rfl
theorem wft : Rows.fnExactFirstClashRow.wfByText (OpenSpec.ofChange Rows.fnExactFirstClashSpec) = true := by kernel_rfl
theorem goes : false = Rows.fnExactFirstClashRow.goesBy Tryd.pinned.checked.prog := by kernel_rfl
end Go.Proofs.YtlembainfhnnbaaDoor.lawFirstClash
