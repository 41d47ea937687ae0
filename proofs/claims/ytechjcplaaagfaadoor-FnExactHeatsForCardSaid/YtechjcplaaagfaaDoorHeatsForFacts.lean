/-
  THE LAW FnExactHeatsFor: the facts of its row, each one by itself.
-/
import Derived.Test.YtechjcplaaagfaaDoorCards
import Derived.Test.YtechjcplaaagfaaDoorTie
import Derived.Test.YtechjcplaaagfaaDoorJoined
import Derived.ProofKit
namespace Go.Proofs.YtechjcplaaagfaaDoor.heatsFor
open Go
theorem k0 : Rows.fnExactHeatsForRow.wf (OpenSpec.ofChange Rows.fnExactHeatsForSpec) = true := by kernel_rfl
theorem k3 : Tryd.f4.params.all (Tryd.prog.readableRec ·) = true := by kernel_rfl
theorem k4 : namedTie Tryd.prog Rows.fnExactHeatsForRow.named Rows.fnExactHeatsForSpec.vars = true := by kernel_rfl
theorem k5 : (Rows.fnExactHeatsForRow.stops == []) = true := by kernel_rfl
theorem k7 : (Rows.fnExactHeatsForRow.knobs == []) = true := by kernel_rfl
theorem k9 : (Rows.fnExactHeatsForRow.inPlace == Tryd.prog.inPlace 4) = true := by kernel_rfl
theorem k10 : (Rows.fnExactHeatsForRow.unfollowed == Tryd.prog.unfollowed 4) = true := by kernel_rfl
theorem k11 : (Rows.fnExactHeatsForRow.recurses == Tryd.prog.recurses 4) = true := by kernel_rfl
theorem k12 : (Rows.fnExactHeatsForRow.named == Tryd.prog.varsNamed 4) = true := by kernel_rfl
theorem k13 : (Rows.fnExactHeatsForRow.maps == (Tryd.f4.params.toList ++ Rows.fnExactHeatsForSpec.plain.varTypes Tryd.prog).any (Tryd.prog.mapsRec ·)) = true := by kernel_rfl
theorem k14 : (Rows.fnExactHeatsForRow.ifaces == (Tryd.f4.params.toList ++ Rows.fnExactHeatsForSpec.plain.varTypes Tryd.prog).any (Tryd.prog.ifacesRec ·)) = true := by kernel_rfl
theorem k15 : (Rows.fnExactHeatsForRow.mapsOut == Tryd.prog.mapsAmong Tryd.f4.resultTypes.toList) = true := by kernel_rfl
theorem k16 : (Rows.fnExactHeatsForRow.loops == (Tryd.f4.params.toList ++ Rows.fnExactHeatsForSpec.plain.varTypes Tryd.prog).any (Tryd.prog.loopsFrom ·)) = true := by kernel_rfl
theorem k17 : (Rows.fnExactHeatsForRow.wideKeys == (Tryd.f4.params.toList ++ Rows.fnExactHeatsForSpec.plain.varTypes Tryd.prog ++ Tryd.f4.resultTypes.toList).any (Tryd.prog.wideKeysFrom ·)) = true := by kernel_rfl
theorem k18 : Rows.fnExactHeatsForSpec.vars.all (Tryd.prog.varReadable ·) = true := by kernel_rfl
theorem k19 : Tryd.f4.resultTypes.all (fun t => Tryd.prog.readableRec t && decide (t < Tryd.prog.types.size)) = true := by kernel_rfl
theorem k20 : (Rows.fnExactHeatsForRow.ifacesOut == Tryd.f4.resultTypes.toList.any (Tryd.prog.ifacesRec ·)) = true := by kernel_rfl
theorem k21 : (Rows.fnExactHeatsForRow.loopsOut == Tryd.f4.resultTypes.toList.any (Tryd.prog.loopsFrom ·)) = true := by kernel_rfl
theorem k23 : Rows.fnExactHeatsForRow.shortTexts.isNone = true := by kernel_rfl
theorem k28 : facts.kindsOf Tryd.prog Tryd.f4 Rows.fnExactHeatsForRow = true := by kernel_rfl
theorem k29 : (Rows.fnExactHeatsForRow.pinned == Rows.fnExactHeatsForRow.pinnedBy) = true := by kernel_rfl
theorem k30 : (Rows.fnExactHeatsForRow.veiled == (Tryd.f4.params.toList ++ Rows.fnExactHeatsForSpec.plain.varTypes Tryd.prog ++ Tryd.f4.resultTypes.toList).any (Tryd.prog.veiledRec ·)) = true := by kernel_rfl
theorem k31 : Rows.fnExactHeatsForRow.veiledFits Tryd.prog Tryd.f4.params.toList (Tryd.f4.params.toList ++ Rows.fnExactHeatsForSpec.plain.varTypes Tryd.prog ++ Tryd.f4.resultTypes.toList) = true := by kernel_rfl
theorem named : Tryd.pinned.checked.prog.funcNamed Rows.fnExactHeatsForRow.func = some 4 := by kernel_rfl
theorem inst : decide (Tryd.f4.isInstance Tryd.prog Rows.fnExactHeatsForRow.origin Rows.fnExactHeatsForRow.targs) = true := by kernel_rfl
theorem stand : (Tryd.f4.params.toList.all fun u => !Tryd.prog.wantsStandIn u) = true := by kernel_rfl
theorem wft : Rows.fnExactHeatsForRow.wfByText (OpenSpec.ofChange Rows.fnExactHeatsForSpec) = true := by kernel_rfl
theorem goes : false = Rows.fnExactHeatsForRow.goesBy Tryd.pinned.checked.prog := by kernel_rfl
end Go.Proofs.YtechjcplaaagfaaDoor.heatsFor
