/-
  THE LAW FnExactLeastStock: the facts of its row, each one by itself.
-/
import Derived.Test.YtdcckdfemelbiaaDoorCards
import Derived.Test.YtdcckdfemelbiaaDoorTie
import Derived.Test.YtdcckdfemelbiaaDoorJoined
import Derived.ProofKit
namespace Go.Proofs.YtdcckdfemelbiaaDoor.lawLeastStock
open Go
theorem k0 : Rows.fnExactLeastStockRow.wf (OpenSpec.ofChange Rows.fnExactLeastStockSpec) = true := by kernel_rfl
theorem k3 : Tryd.f14.params.all (Tryd.prog.readableRec ·) = true := by kernel_rfl
theorem k4 : namedTie Tryd.prog Rows.fnExactLeastStockRow.named Rows.fnExactLeastStockSpec.vars = true := by kernel_rfl
theorem k5 : (Rows.fnExactLeastStockRow.stops == []) = true := by kernel_rfl
theorem k7 : (Rows.fnExactLeastStockRow.knobs == []) = true := by kernel_rfl
theorem k9 : (Rows.fnExactLeastStockRow.inPlace == Tryd.prog.inPlace 14) = true := by kernel_rfl
theorem k10 : (Rows.fnExactLeastStockRow.unfollowed == Tryd.prog.unfollowed 14) = true := by kernel_rfl
theorem k11 : (Rows.fnExactLeastStockRow.recurses == Tryd.prog.recurses 14) = true := by kernel_rfl
theorem k12 : (Rows.fnExactLeastStockRow.named == Tryd.prog.varsNamed 14) = true := by kernel_rfl
theorem k13 : (Rows.fnExactLeastStockRow.maps == (Tryd.f14.params.toList ++ Rows.fnExactLeastStockSpec.plain.varTypes Tryd.prog).any (Tryd.prog.mapsRec ·)) = true := by kernel_rfl
theorem k14 : (Rows.fnExactLeastStockRow.ifaces == (Tryd.f14.params.toList ++ Rows.fnExactLeastStockSpec.plain.varTypes Tryd.prog).any (Tryd.prog.ifacesRec ·)) = true := by kernel_rfl
theorem k15 : (Rows.fnExactLeastStockRow.mapsOut == Tryd.prog.mapsAmong Tryd.f14.resultTypes.toList) = true := by kernel_rfl
theorem k16 : (Rows.fnExactLeastStockRow.loops == (Tryd.f14.params.toList ++ Rows.fnExactLeastStockSpec.plain.varTypes Tryd.prog).any (Tryd.prog.loopsFrom ·)) = true := by kernel_rfl
theorem k17 : (Rows.fnExactLeastStockRow.wideKeys == (Tryd.f14.params.toList ++ Rows.fnExactLeastStockSpec.plain.varTypes Tryd.prog ++ Tryd.f14.resultTypes.toList).any (Tryd.prog.wideKeysFrom ·)) = true := by kernel_rfl
theorem k18 : Rows.fnExactLeastStockSpec.vars.all (Tryd.prog.varReadable ·) = true := by kernel_rfl
theorem k19 : Tryd.f14.resultTypes.all (fun t => Tryd.prog.readableRec t && decide (t < Tryd.prog.types.size)) = true := by kernel_rfl
theorem k20 : (Rows.fnExactLeastStockRow.ifacesOut == Tryd.f14.resultTypes.toList.any (Tryd.prog.ifacesRec ·)) = true := by kernel_rfl
theorem k21 : (Rows.fnExactLeastStockRow.loopsOut == Tryd.f14.resultTypes.toList.any (Tryd.prog.loopsFrom ·)) = true := by kernel_rfl
theorem k23 : Rows.fnExactLeastStockRow.shortTexts.isNone = true := by kernel_rfl
theorem k28 : facts.kindsOf Tryd.prog Tryd.f14 Rows.fnExactLeastStockRow = true := by kernel_rfl
theorem k29 : (Rows.fnExactLeastStockRow.pinned == Rows.fnExactLeastStockRow.pinnedBy) = true := by kernel_rfl
theorem k30 : (Rows.fnExactLeastStockRow.veiled == (Tryd.f14.params.toList ++ Rows.fnExactLeastStockSpec.plain.varTypes Tryd.prog ++ Tryd.f14.resultTypes.toList).any (Tryd.prog.veiledRec ·)) = true := by kernel_rfl
theorem k31 : Rows.fnExactLeastStockRow.veiledFits Tryd.prog Tryd.f14.params.toList (Tryd.f14.params.toList ++ Rows.fnExactLeastStockSpec.plain.varTypes Tryd.prog ++ Tryd.f14.resultTypes.toList) = true := by kernel_rfl
theorem named : Tryd.pinned.checked.prog.funcNamed Rows.fnExactLeastStockRow.func = some 14 := by kernel_rfl
theorem inst : decide (Tryd.f14.isInstance Tryd.prog Rows.fnExactLeastStockRow.origin Rows.fnExactLeastStockRow.targs) = true := by kernel_rfl
theorem stand : (Tryd.f14.params.toList.all fun u => !Tryd.prog.wantsStandIn u) = true := by kernel_rfl
theorem wft : Rows.fnExactLeastStockRow.wfByText (OpenSpec.ofChange Rows.fnExactLeastStockSpec) = true := by kernel_rfl
theorem goes : false = Rows.fnExactLeastStockRow.goesBy Tryd.pinned.checked.prog := by kernel_rfl
end Go.Proofs.YtdcckdfemelbiaaDoor.lawLeastStock
