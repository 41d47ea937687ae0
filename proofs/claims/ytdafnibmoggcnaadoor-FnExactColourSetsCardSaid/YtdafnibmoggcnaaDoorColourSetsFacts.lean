/-
  THE LAW FnExactColourSets: the facts of its row, each one by itself.
-/
import Derived.Test.YtdafnibmoggcnaaDoorCards
import Derived.Test.YtdafnibmoggcnaaDoorTie
import Derived.Test.YtdafnibmoggcnaaDoorJoined
import Derived.ProofKit
namespace Go.Proofs.YtdafnibmoggcnaaDoor.lawColourSets
open Go
theorem k0 : Rows.fnExactColourSetsRow.wf (OpenSpec.ofChange Rows.fnExactColourSetsSpec) = true := by kernel_rfl
theorem k3 : Tryd.f4.params.all (Tryd.prog.readableRec ·) = true := by kernel_rfl
theorem k4 : namedTie Tryd.prog Rows.fnExactColourSetsRow.named Rows.fnExactColourSetsSpec.vars = true := by kernel_rfl
theorem k5 : (Rows.fnExactColourSetsRow.stops == []) = true := by kernel_rfl
theorem k7 : (Rows.fnExactColourSetsRow.knobs == []) = true := by kernel_rfl
theorem k9 : (Rows.fnExactColourSetsRow.inPlace == Tryd.prog.inPlace 4) = true := by kernel_rfl
theorem k10 : (Rows.fnExactColourSetsRow.unfollowed == Tryd.prog.unfollowed 4) = true := by kernel_rfl
theorem k11 : (Rows.fnExactColourSetsRow.recurses == Tryd.prog.recurses 4) = true := by kernel_rfl
theorem k12 : (Rows.fnExactColourSetsRow.named == Tryd.prog.varsNamed 4) = true := by kernel_rfl
theorem k13 : (Rows.fnExactColourSetsRow.maps == (Tryd.f4.params.toList ++ Rows.fnExactColourSetsSpec.plain.varTypes Tryd.prog).any (Tryd.prog.mapsRec ·)) = true := by kernel_rfl
theorem k14 : (Rows.fnExactColourSetsRow.ifaces == (Tryd.f4.params.toList ++ Rows.fnExactColourSetsSpec.plain.varTypes Tryd.prog).any (Tryd.prog.ifacesRec ·)) = true := by kernel_rfl
theorem k15 : (Rows.fnExactColourSetsRow.mapsOut == Tryd.prog.mapsAmong Tryd.f4.resultTypes.toList) = true := by kernel_rfl
theorem k16 : (Rows.fnExactColourSetsRow.loops == (Tryd.f4.params.toList ++ Rows.fnExactColourSetsSpec.plain.varTypes Tryd.prog).any (Tryd.prog.loopsFrom ·)) = true := by kernel_rfl
theorem k17 : (Rows.fnExactColourSetsRow.wideKeys == (Tryd.f4.params.toList ++ Rows.fnExactColourSetsSpec.plain.varTypes Tryd.prog ++ Tryd.f4.resultTypes.toList).any (Tryd.prog.wideKeysFrom ·)) = true := by kernel_rfl
theorem k18 : Rows.fnExactColourSetsSpec.vars.all (Tryd.prog.varReadable ·) = true := by kernel_rfl
theorem k19 : Tryd.f4.resultTypes.all (fun t => Tryd.prog.readableRec t && decide (t < Tryd.prog.types.size)) = true := by kernel_rfl
theorem k20 : (Rows.fnExactColourSetsRow.ifacesOut == Tryd.f4.resultTypes.toList.any (Tryd.prog.ifacesRec ·)) = true := by kernel_rfl
theorem k21 : (Rows.fnExactColourSetsRow.loopsOut == Tryd.f4.resultTypes.toList.any (Tryd.prog.loopsFrom ·)) = true := by kernel_rfl
theorem k23 : Rows.fnExactColourSetsRow.shortTexts.isNone = true := by kernel_rfl
theorem k28 : facts.kindsOf Tryd.prog Tryd.f4 Rows.fnExactColourSetsRow = true := by kernel_rfl
theorem k29 : (Rows.fnExactColourSetsRow.pinned == Rows.fnExactColourSetsRow.pinnedBy) = true := by kernel_rfl
theorem k30 : (Rows.fnExactColourSetsRow.veiled == (Tryd.f4.params.toList ++ Rows.fnExactColourSetsSpec.plain.varTypes Tryd.prog ++ Tryd.f4.resultTypes.toList).any (Tryd.prog.veiledRec ·)) = true := by kernel_rfl
theorem k31 : Rows.fnExactColourSetsRow.veiledFits Tryd.prog Tryd.f4.params.toList (Tryd.f4.params.toList ++ Rows.fnExactColourSetsSpec.plain.varTypes Tryd.prog ++ Tryd.f4.resultTypes.toList) = true := by kernel_rfl
theorem named : Tryd.pinned.checked.prog.funcNamed Rows.fnExactColourSetsRow.func = some 4 := by kernel_rfl
theorem inst : decide (Tryd.f4.isInstance Tryd.prog Rows.fnExactColourSetsRow.origin Rows.fnExactColourSetsRow.targs) = true := by kernel_rfl
theorem stand : (Tryd.f4.params.toList.all fun u => !Tryd.prog.wantsStandIn u) = true := by kernel_rfl
theorem wft : Rows.fnExactColourSetsRow.wfByText (OpenSpec.ofChange Rows.fnExactColourSetsSpec) = true := by kernel_rfl
theorem goes : false = Rows.fnExactColourSetsRow.goesBy Tryd.pinned.checked.prog := by kernel_rfl
end Go.Proofs.YtdafnibmoggcnaaDoor.lawColourSets
