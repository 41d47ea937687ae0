/-
  THE LAW FnExactCostOf: the facts of its row, each one by itself.
-/
import Derived.Test.YtekigapeekjigaaDoorCards
import Derived.Test.YtekigapeekjigaaDoorTie
import Derived.Test.YtekigapeekjigaaDoorJoined
import Derived.ProofKit
namespace Go.Proofs.YtekigapeekjigaaDoor.lawCostOf
open Go
theorem k0 : Rows.fnExactCostOfRow.wf (OpenSpec.ofChange Rows.fnExactCostOfSpec) = true := by kernel_rfl
theorem k3 : Tryd.f6.params.all (Tryd.prog.readableRec ·) = true := by kernel_rfl
theorem k4 : namedTie Tryd.prog Rows.fnExactCostOfRow.named Rows.fnExactCostOfSpec.vars = true := by kernel_rfl
theorem k5 : (Rows.fnExactCostOfRow.stops == []) = true := by kernel_rfl
theorem k7 : (Rows.fnExactCostOfRow.knobs == []) = true := by kernel_rfl
theorem k9 : (Rows.fnExactCostOfRow.inPlace == Tryd.prog.inPlace 6) = true := by kernel_rfl
theorem k10 : (Rows.fnExactCostOfRow.unfollowed == Tryd.prog.unfollowed 6) = true := by kernel_rfl
theorem k11 : (Rows.fnExactCostOfRow.recurses == Tryd.prog.recurses 6) = true := by kernel_rfl
theorem k12 : (Rows.fnExactCostOfRow.named == Tryd.prog.varsNamed 6) = true := by kernel_rfl
theorem k13 : (Rows.fnExactCostOfRow.maps == (Tryd.f6.params.toList ++ Rows.fnExactCostOfSpec.plain.varTypes Tryd.prog).any (Tryd.prog.mapsRec ·)) = true := by kernel_rfl
theorem k14 : (Rows.fnExactCostOfRow.ifaces == (Tryd.f6.params.toList ++ Rows.fnExactCostOfSpec.plain.varTypes Tryd.prog).any (Tryd.prog.ifacesRec ·)) = true := by kernel_rfl
theorem k15 : (Rows.fnExactCostOfRow.mapsOut == Tryd.prog.mapsAmong Tryd.f6.resultTypes.toList) = true := by kernel_rfl
theorem k16 : (Rows.fnExactCostOfRow.loops == (Tryd.f6.params.toList ++ Rows.fnExactCostOfSpec.plain.varTypes Tryd.prog).any (Tryd.prog.loopsFrom ·)) = true := by kernel_rfl
theorem k17 : (Rows.fnExactCostOfRow.wideKeys == (Tryd.f6.params.toList ++ Rows.fnExactCostOfSpec.plain.varTypes Tryd.prog ++ Tryd.f6.resultTypes.toList).any (Tryd.prog.wideKeysFrom ·)) = true := by kernel_rfl
theorem k18 : Rows.fnExactCostOfSpec.vars.all (Tryd.prog.varReadable ·) = true := by kernel_rfl
theorem k19 : Tryd.f6.resultTypes.all (fun t => Tryd.prog.readableRec t && decide (t < Tryd.prog.types.size)) = true := by kernel_rfl
theorem k20 : (Rows.fnExactCostOfRow.ifacesOut == Tryd.f6.resultTypes.toList.any (Tryd.prog.ifacesRec ·)) = true := by kernel_rfl
theorem k21 : (Rows.fnExactCostOfRow.loopsOut == Tryd.f6.resultTypes.toList.any (Tryd.prog.loopsFrom ·)) = true := by kernel_rfl
theorem k23 : Rows.fnExactCostOfRow.shortTexts.isNone = true := by kernel_rfl
theorem k28 : facts.kindsOf Tryd.prog Tryd.f6 Rows.fnExactCostOfRow = true := by kernel_rfl
theorem k29 : (Rows.fnExactCostOfRow.pinned == Rows.fnExactCostOfRow.pinnedBy) = true := by kernel_rfl
theorem k30 : (Rows.fnExactCostOfRow.veiled == (Tryd.f6.params.toList ++ Rows.fnExactCostOfSpec.plain.varTypes Tryd.prog ++ Tryd.f6.resultTypes.toList).any (Tryd.prog.veiledRec ·)) = true := by kernel_rfl
theorem k31 : Rows.fnExactCostOfRow.veiledFits Tryd.prog Tryd.f6.params.toList (Tryd.f6.params.toList ++ Rows.fnExactCostOfSpec.plain.varTypes Tryd.prog ++ Tryd.f6.resultTypes.toList) = true := by kernel_rfl
theorem named : Tryd.pinned.checked.prog.funcNamed Rows.fnExactCostOfRow.func = some 6 := by kernel_rfl
theorem inst : decide (Tryd.f6.isInstance Tryd.prog Rows.fnExactCostOfRow.origin Rows.fnExactCostOfRow.targs) = true := by kernel_rfl
theorem stand : (Tryd.f6.params.toList.all fun u => !Tryd.prog.wantsStandIn u) = true := by kernel_rfl
theorem wft : Rows.fnExactCostOfRow.wfByText (OpenSpec.ofChange Rows.fnExactCostOfSpec) = true := by kernel_rfl
theorem goes : false = Rows.fnExactCostOfRow.goesBy Tryd.pinned.checked.prog := by kernel_rfl
end Go.Proofs.YtekigapeekjigaaDoor.lawCostOf
