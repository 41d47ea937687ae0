/-
  THE LAW FnExactGreedyLoads: the facts of its row, each one by itself.
-/
import Derived.Test.YtekigapeekjigaaDoorCards
import Derived.Test.YtekigapeekjigaaDoorTie
import Derived.Test.YtekigapeekjigaaDoorJoined
import Derived.ProofKit
namespace Go.Proofs.YtekigapeekjigaaDoor.lawGreedyLoads
open Go
theorem k0 : Rows.fnExactGreedyLoadsRow.wf (OpenSpec.ofChange Rows.fnExactGreedyLoadsSpec) = true := by kernel_rfl
theorem k3 : Tryd.f5.params.all (Tryd.prog.readableRec ·) = true := by kernel_rfl
theorem k4 : namedTie Tryd.prog Rows.fnExactGreedyLoadsRow.named Rows.fnExactGreedyLoadsSpec.vars = true := by kernel_rfl
theorem k5 : (Rows.fnExactGreedyLoadsRow.stops == []) = true := by kernel_rfl
theorem k7 : (Rows.fnExactGreedyLoadsRow.knobs == []) = true := by kernel_rfl
theorem k9 : (Rows.fnExactGreedyLoadsRow.inPlace == Tryd.prog.inPlace 5) = true := by kernel_rfl
theorem k10 : (Rows.fnExactGreedyLoadsRow.unfollowed == Tryd.prog.unfollowed 5) = true := by kernel_rfl
theorem k11 : (Rows.fnExactGreedyLoadsRow.recurses == Tryd.prog.recurses 5) = true := by kernel_rfl
theorem k12 : (Rows.fnExactGreedyLoadsRow.named == Tryd.prog.varsNamed 5) = true := by kernel_rfl
theorem k13 : (Rows.fnExactGreedyLoadsRow.maps == (Tryd.f5.params.toList ++ Rows.fnExactGreedyLoadsSpec.plain.varTypes Tryd.prog).any (Tryd.prog.mapsRec ·)) = true := by kernel_rfl
theorem k14 : (Rows.fnExactGreedyLoadsRow.ifaces == (Tryd.f5.params.toList ++ Rows.fnExactGreedyLoadsSpec.plain.varTypes Tryd.prog).any (Tryd.prog.ifacesRec ·)) = true := by kernel_rfl
theorem k15 : (Rows.fnExactGreedyLoadsRow.mapsOut == Tryd.prog.mapsAmong Tryd.f5.resultTypes.toList) = true := by kernel_rfl
theorem k16 : (Rows.fnExactGreedyLoadsRow.loops == (Tryd.f5.params.toList ++ Rows.fnExactGreedyLoadsSpec.plain.varTypes Tryd.prog).any (Tryd.prog.loopsFrom ·)) = true := by kernel_rfl
theorem k17 : (Rows.fnExactGreedyLoadsRow.wideKeys == (Tryd.f5.params.toList ++ Rows.fnExactGreedyLoadsSpec.plain.varTypes Tryd.prog ++ Tryd.f5.resultTypes.toList).any (Tryd.prog.wideKeysFrom ·)) = true := by kernel_rfl
theorem k18 : Rows.fnExactGreedyLoadsSpec.vars.all (Tryd.prog.varReadable ·) = true := by kernel_rfl
theorem k19 : Tryd.f5.resultTypes.all (fun t => Tryd.prog.readableRec t && decide (t < Tryd.prog.types.size)) = true := by kernel_rfl
theorem k20 : (Rows.fnExactGreedyLoadsRow.ifacesOut == Tryd.f5.resultTypes.toList.any (Tryd.prog.ifacesRec ·)) = true := by kernel_rfl
theorem k21 : (Rows.fnExactGreedyLoadsRow.loopsOut == Tryd.f5.resultTypes.toList.any (Tryd.prog.loopsFrom ·)) = true := by kernel_rfl
theorem k23 : Rows.fnExactGreedyLoadsRow.shortTexts.isNone = true := by kernel_rfl
theorem k28 : facts.kindsOf Tryd.prog Tryd.f5 Rows.fnExactGreedyLoadsRow = true := by kernel_rfl
theorem k29 : (Rows.fnExactGreedyLoadsRow.pinned == Rows.fnExactGreedyLoadsRow.pinnedBy) = true := by kernel_rfl
theorem k30 : (Rows.fnExactGreedyLoadsRow.veiled == (Tryd.f5.params.toList ++ Rows.fnExactGreedyLoadsSpec.plain.varTypes Tryd.prog ++ Tryd.f5.resultTypes.toList).any (Tryd.prog.veiledRec ·)) = true := by kernel_rfl
theorem k31 : Rows.fnExactGreedyLoadsRow.veiledFits Tryd.prog Tryd.f5.params.toList (Tryd.f5.params.toList ++ Rows.fnExactGreedyLoadsSpec.plain.varTypes Tryd.prog ++ Tryd.f5.resultTypes.toList) = true := by kernel_rfl
theorem named : Tryd.pinned.checked.prog.funcNamed Rows.fnExactGreedyLoadsRow.func = some 5 := by kernel_rfl
theorem inst : decide (Tryd.f5.isInstance Tryd.prog Rows.fnExactGreedyLoadsRow.origin Rows.fnExactGreedyLoadsRow.targs) = true := by kernel_rfl
theorem stand : (Tryd.f5.params.toList.all fun u => !Tryd.prog.wantsStandIn u) = true := by kernel_rfl
theorem wft : Rows.fnExactGreedyLoadsRow.wfByText (OpenSpec.ofChange Rows.fnExactGreedyLoadsSpec) = true := by kernel_rfl
theorem goes : false = Rows.fnExactGreedyLoadsRow.goesBy Tryd.pinned.checked.prog := by kernel_rfl
end Go.Proofs.YtekigapeekjigaaDoor.lawGreedyLoads
