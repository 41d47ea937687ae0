/-
  THE LAW FnExactCheckLoads: the facts of its row, each one by itself.
-/
import Derived.Test.YtekigapeekjigaaDoorCards
import Derived.Test.YtekigapeekjigaaDoorTie
import Derived.Test.YtekigapeekjigaaDoorJoined
import Derived.ProofKit
namespace Go.Proofs.YtekigapeekjigaaDoor.lawCheckLoads
open Go
theorem k0 : Rows.fnExactCheckLoadsRow.wf (OpenSpec.ofChange Rows.fnExactCheckLoadsSpec) = true := by kernel_rfl
theorem k3 : Tryd.f4.params.all (Tryd.prog.readableRec ·) = true := by kernel_rfl
theorem k4 : namedTie Tryd.prog Rows.fnExactCheckLoadsRow.named Rows.fnExactCheckLoadsSpec.vars = true := by kernel_rfl
theorem k5 : (Rows.fnExactCheckLoadsRow.stops == []) = true := by kernel_rfl
theorem k7 : (Rows.fnExactCheckLoadsRow.knobs == []) = true := by kernel_rfl
theorem k9 : (Rows.fnExactCheckLoadsRow.inPlace == Tryd.prog.inPlace 4) = true := by kernel_rfl
theorem k10 : (Rows.fnExactCheckLoadsRow.unfollowed == Tryd.prog.unfollowed 4) = true := by kernel_rfl
theorem k11 : (Rows.fnExactCheckLoadsRow.recurses == Tryd.prog.recurses 4) = true := by kernel_rfl
theorem k12 : (Rows.fnExactCheckLoadsRow.named == Tryd.prog.varsNamed 4) = true := by kernel_rfl
theorem k13 : (Rows.fnExactCheckLoadsRow.maps == (Tryd.f4.params.toList ++ Rows.fnExactCheckLoadsSpec.plain.varTypes Tryd.prog).any (Tryd.prog.mapsRec ·)) = true := by kernel_rfl
theorem k14 : (Rows.fnExactCheckLoadsRow.ifaces == (Tryd.f4.params.toList ++ Rows.fnExactCheckLoadsSpec.plain.varTypes Tryd.prog).any (Tryd.prog.ifacesRec ·)) = true := by kernel_rfl
theorem k15 : (Rows.fnExactCheckLoadsRow.mapsOut == Tryd.prog.mapsAmong Tryd.f4.resultTypes.toList) = true := by kernel_rfl
theorem k16 : (Rows.fnExactCheckLoadsRow.loops == (Tryd.f4.params.toList ++ Rows.fnExactCheckLoadsSpec.plain.varTypes Tryd.prog).any (Tryd.prog.loopsFrom ·)) = true := by kernel_rfl
theorem k17 : (Rows.fnExactCheckLoadsRow.wideKeys == (Tryd.f4.params.toList ++ Rows.fnExactCheckLoadsSpec.plain.varTypes Tryd.prog ++ Tryd.f4.resultTypes.toList).any (Tryd.prog.wideKeysFrom ·)) = true := by kernel_rfl
theorem k18 : Rows.fnExactCheckLoadsSpec.vars.all (Tryd.prog.varReadable ·) = true := by kernel_rfl
theorem k19 : Tryd.f4.resultTypes.all (fun t => Tryd.prog.readableRec t && decide (t < Tryd.prog.types.size)) = true := by kernel_rfl
theorem k20 : (Rows.fnExactCheckLoadsRow.ifacesOut == Tryd.f4.resultTypes.toList.any (Tryd.prog.ifacesRec ·)) = true := by kernel_rfl
theorem k21 : (Rows.fnExactCheckLoadsRow.loopsOut == Tryd.f4.resultTypes.toList.any (Tryd.prog.loopsFrom ·)) = true := by kernel_rfl
theorem k23 : Rows.fnExactCheckLoadsRow.shortTexts.isNone = true := by kernel_rfl
theorem k28 : facts.kindsOf Tryd.prog Tryd.f4 Rows.fnExactCheckLoadsRow = true := by kernel_rfl
theorem k29 : (Rows.fnExactCheckLoadsRow.pinned == Rows.fnExactCheckLoadsRow.pinnedBy) = true := by kernel_rfl
theorem k30 : (Rows.fnExactCheckLoadsRow.veiled == (Tryd.f4.params.toList ++ Rows.fnExactCheckLoadsSpec.plain.varTypes Tryd.prog ++ Tryd.f4.resultTypes.toList).any (Tryd.prog.veiledRec ·)) = true := by kernel_rfl
theorem k31 : Rows.fnExactCheckLoadsRow.veiledFits Tryd.prog Tryd.f4.params.toList (Tryd.f4.params.toList ++ Rows.fnExactCheckLoadsSpec.plain.varTypes Tryd.prog ++ Tryd.f4.resultTypes.toList) = true := by kernel_rfl
theorem named : Tryd.pinned.checked.prog.funcNamed Rows.fnExactCheckLoadsRow.func = some 4 := by kernel_rfl
theorem inst : decide (Tryd.f4.isInstance Tryd.prog Rows.fnExactCheckLoadsRow.origin Rows.fnExactCheckLoadsRow.targs) = true := by kernel_rfl
theorem stand : (Tryd.f4.params.toList.all fun u => !Tryd.prog.wantsStandIn u) = true := by kernel_rfl
theorem wft : Rows.fnExactCheckLoadsRow.wfByText (OpenSpec.ofChange Rows.fnExactCheckLoadsSpec) = true := by kernel_rfl
theorem goes : false = Rows.fnExactCheckLoadsRow.goesBy Tryd.pinned.checked.prog := by kernel_rfl
end Go.Proofs.YtekigapeekjigaaDoor.lawCheckLoads
