/-
  THE LAW FnExactLostFrom: the facts of its row, each one by itself.
-/
import Derived.Test.YtlembainfhnnbaaDoorCards
import Derived.Test.YtlembainfhnnbaaDoorTie
import Derived.Test.YtlembainfhnnbaaDoorJoined
import Derived.ProofKit
namespace Go.Proofs.YtlembainfhnnbaaDoor.lawLostFrom
open Go
theorem k0 : Rows.fnExactLostFromRow.wf (OpenSpec.ofChange Rows.fnExactLostFromSpec) = true := by kernel_rfl
theorem k3 : Tryd.f3.params.all (Tryd.prog.readableRec ·) = true := by kernel_rfl
theorem k4 : namedTie Tryd.prog Rows.fnExactLostFromRow.named Rows.fnExactLostFromSpec.vars = true := by kernel_rfl
theorem k5 : (Rows.fnExactLostFromRow.stops == []) = true := by kernel_rfl
theorem k7 : (Rows.fnExactLostFromRow.knobs == []) = true := by kernel_rfl
theorem k9 : (Rows.fnExactLostFromRow.inPlace == Tryd.prog.inPlace 3) = true := by kernel_rfl
theorem k10 : (Rows.fnExactLostFromRow.unfollowed == Tryd.prog.unfollowed 3) = true := by kernel_rfl
theorem k11 : (Rows.fnExactLostFromRow.recurses == Tryd.prog.recurses 3) = true := by kernel_rfl
theorem k12 : (Rows.fnExactLostFromRow.named == Tryd.prog.varsNamed 3) = true := by kernel_rfl
theorem k13 : (Rows.fnExactLostFromRow.maps == (Tryd.f3.params.toList ++ Rows.fnExactLostFromSpec.plain.varTypes Tryd.prog).any (Tryd.prog.mapsRec ·)) = true := by kernel_rfl
theorem k14 : (Rows.fnExactLostFromRow.ifaces == (Tryd.f3.params.toList ++ Rows.fnExactLostFromSpec.plain.varTypes Tryd.prog).any (Tryd.prog.ifacesRec ·)) = true := by kernel_rfl
theorem k15 : (Rows.fnExactLostFromRow.mapsOut == Tryd.prog.mapsAmong Tryd.f3.resultTypes.toList) = true := by kernel_rfl
theorem k16 : (Rows.fnExactLostFromRow.loops == (Tryd.f3.params.toList ++ Rows.fnExactLostFromSpec.plain.varTypes Tryd.prog).any (Tryd.prog.loopsFrom ·)) = true := by kernel_rfl
theorem k17 : (Rows.fnExactLostFromRow.wideKeys == (Tryd.f3.params.toList ++ Rows.fnExactLostFromSpec.plain.varTypes Tryd.prog ++ Tryd.f3.resultTypes.toList).any (Tryd.prog.wideKeysFrom ·)) = true := by kernel_rfl
theorem k18 : Rows.fnExactLostFromSpec.vars.all (Tryd.prog.varReadable ·) = true := by kernel_rfl
theorem k19 : Tryd.f3.resultTypes.all (fun t => Tryd.prog.readableRec t && decide (t < Tryd.prog.types.size)) = true := by kernel_rfl
theorem k20 : (Rows.fnExactLostFromRow.ifacesOut == Tryd.f3.resultTypes.toList.any (Tryd.prog.ifacesRec ·)) = true := by kernel_rfl
theorem k21 : (Rows.fnExactLostFromRow.loopsOut == Tryd.f3.resultTypes.toList.any (Tryd.prog.loopsFrom ·)) = true := by kernel_rfl
theorem k23 : Rows.fnExactLostFromRow.shortTexts.isNone = true := by kernel_rfl
theorem k28 : facts.kindsOf Tryd.prog Tryd.f3 Rows.fnExactLostFromRow = true := by kernel_rfl
theorem k29 : (Rows.fnExactLostFromRow.pinned == Rows.fnExactLostFromRow.pinnedBy) = true := by kernel_rfl
theorem k30 : (Rows.fnExactLostFromRow.veiled == (Tryd.f3.params.toList ++ Rows.fnExactLostFromSpec.plain.varTypes Tryd.prog ++ Tryd.f3.resultTypes.toList).any (Tryd.prog.veiledRec ·)) = true := by kernel_rfl
theorem k31 : Rows.fnExactLostFromRow.veiledFits Tryd.prog Tryd.f3.params.toList (Tryd.f3.params.toList ++ Rows.fnExactLostFromSpec.plain.varTypes Tryd.prog ++ Tryd.f3.resultTypes.toList) = true := by kernel_rfl
theorem named : Tryd.pinned.checked.prog.funcNamed Rows.fnExactLostFromRow.func = some 3 := by kernel_rfl
theorem inst : decide (Tryd.f3.isInstance Tryd.prog Rows.fnExactLostFromRow.origin Rows.fnExactLostFromRow.targs) = true := by kernel_rfl
theorem stand : (Tryd.f3.params.toList.all fun u => !Tryd.prog.wantsStandIn u) = true := by kernel_rfl
theorem wft : Rows.fnExactLostFromRow.wfByText (OpenSpec.ofChange Rows.fnExactLostFromSpec) = true := by kernel_rfl
theorem goes : false = Rows.fnExactLostFromRow.goesBy Tryd.pinned.checked.prog := by kernel_rfl
end Go.Proofs.YtlembainfhnnbaaDoor.lawLostFrom
