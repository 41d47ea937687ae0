/-
  THE LAW FnExactLevelCupboard: the facts of its row, each one by itself.
-/
import Derived.Test.YtdcckdfemelbiaaDoorCards
import Derived.Test.YtdcckdfemelbiaaDoorTie
import Derived.Test.YtdcckdfemelbiaaDoorJoined
import Derived.ProofKit
namespace Go.Proofs.YtdcckdfemelbiaaDoor.lawLevelCupboard
open Go
theorem k0 : Rows.fnExactLevelCupboardRow.wf (OpenSpec.ofChange Rows.fnExactLevelCupboardSpec) = true := by kernel_rfl
theorem k3 : Tryd.f6.params.all (Tryd.prog.readableRec ·) = true := by kernel_rfl
theorem k4 : namedTie Tryd.prog Rows.fnExactLevelCupboardRow.named Rows.fnExactLevelCupboardSpec.vars = true := by kernel_rfl
theorem k5 : (Rows.fnExactLevelCupboardRow.stops == []) = true := by kernel_rfl
theorem k7 : (Rows.fnExactLevelCupboardRow.knobs == []) = true := by kernel_rfl
theorem k9 : (Rows.fnExactLevelCupboardRow.inPlace == Tryd.prog.inPlace 6) = true := by kernel_rfl
theorem k10 : (Rows.fnExactLevelCupboardRow.unfollowed == Tryd.prog.unfollowed 6) = true := by kernel_rfl
theorem k11 : (Rows.fnExactLevelCupboardRow.recurses == Tryd.prog.recurses 6) = true := by kernel_rfl
theorem k12 : (Rows.fnExactLevelCupboardRow.named == Tryd.prog.varsNamed 6) = true := by kernel_rfl
theorem k13 : (Rows.fnExactLevelCupboardRow.maps == (Tryd.f6.params.toList ++ Rows.fnExactLevelCupboardSpec.plain.varTypes Tryd.prog).any (Tryd.prog.mapsRec ·)) = true := by kernel_rfl
theorem k14 : (Rows.fnExactLevelCupboardRow.ifaces == (Tryd.f6.params.toList ++ Rows.fnExactLevelCupboardSpec.plain.varTypes Tryd.prog).any (Tryd.prog.ifacesRec ·)) = true := by kernel_rfl
theorem k15 : (Rows.fnExactLevelCupboardRow.mapsOut == Tryd.prog.mapsAmong Tryd.f6.resultTypes.toList) = true := by kernel_rfl
theorem k16 : (Rows.fnExactLevelCupboardRow.loops == (Tryd.f6.params.toList ++ Rows.fnExactLevelCupboardSpec.plain.varTypes Tryd.prog).any (Tryd.prog.loopsFrom ·)) = true := by kernel_rfl
theorem k17 : (Rows.fnExactLevelCupboardRow.wideKeys == (Tryd.f6.params.toList ++ Rows.fnExactLevelCupboardSpec.plain.varTypes Tryd.prog ++ Tryd.f6.resultTypes.toList).any (Tryd.prog.wideKeysFrom ·)) = true := by kernel_rfl
theorem k18 : Rows.fnExactLevelCupboardSpec.vars.all (Tryd.prog.varReadable ·) = true := by kernel_rfl
theorem k19 : Tryd.f6.resultTypes.all (fun t => Tryd.prog.readableRec t && decide (t < Tryd.prog.types.size)) = true := by kernel_rfl
theorem k20 : (Rows.fnExactLevelCupboardRow.ifacesOut == Tryd.f6.resultTypes.toList.any (Tryd.prog.ifacesRec ·)) = true := by kernel_rfl
theorem k21 : (Rows.fnExactLevelCupboardRow.loopsOut == Tryd.f6.resultTypes.toList.any (Tryd.prog.loopsFrom ·)) = true := by kernel_rfl
theorem k23 : Rows.fnExactLevelCupboardRow.shortTexts.isNone = true := by kernel_rfl
theorem k28 : facts.kindsOf Tryd.prog Tryd.f6 Rows.fnExactLevelCupboardRow = true := by kernel_rfl
theorem k29 : (Rows.fnExactLevelCupboardRow.pinned == Rows.fnExactLevelCupboardRow.pinnedBy) = true := by kernel_rfl
theorem k30 : (Rows.fnExactLevelCupboardRow.veiled == (Tryd.f6.params.toList ++ Rows.fnExactLevelCupboardSpec.plain.varTypes Tryd.prog ++ Tryd.f6.resultTypes.toList).any (Tryd.prog.veiledRec ·)) = true := by kernel_rfl
theorem k31 : Rows.fnExactLevelCupboardRow.veiledFits Tryd.prog Tryd.f6.params.toList (Tryd.f6.params.toList ++ Rows.fnExactLevelCupboardSpec.plain.varTypes Tryd.prog ++ Tryd.f6.resultTypes.toList) = true := by kernel_rfl
theorem named : Tryd.pinned.checked.prog.funcNamed Rows.fnExactLevelCupboardRow.func = some 6 := by kernel_rfl
theorem inst : decide (Tryd.f6.isInstance Tryd.prog Rows.fnExactLevelCupboardRow.origin Rows.fnExactLevelCupboardRow.targs) = true := by kernel_rfl
theorem stand : (Tryd.f6.params.toList.all fun u => !Tryd.prog.wantsStandIn u) = true := by kernel_rfl
theorem wft : Rows.fnExactLevelCupboardRow.wfByText (OpenSpec.ofChange Rows.fnExactLevelCupboardSpec) = true := by kernel_rfl
theorem goes : false = Rows.fnExactLevelCupboardRow.goesBy Tryd.pinned.checked.prog := by kernel_rfl
end Go.Proofs.YtdcckdfemelbiaaDoor.lawLevelCupboard
