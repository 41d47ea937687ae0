/-
  THE LAW FnExactIsLoad: the facts of its row, each one by itself.
-/
import Derived.Test.YtechjcplaaagfaaDoorCards
import Derived.Test.YtechjcplaaagfaaDoorTie
import Derived.Test.YtechjcplaaagfaaDoorJoined
import Derived.ProofKit
namespace Go.Proofs.YtechjcplaaagfaaDoor.lawIsLoad
open Go
theorem k0 : Rows.fnExactIsLoadRow.wf (OpenSpec.ofChange Rows.fnExactIsLoadSpec) = true := by kernel_rfl
theorem k3 : Tryd.f6.params.all (Tryd.prog.readableRec ·) = true := by kernel_rfl
theorem k4 : namedTie Tryd.prog Rows.fnExactIsLoadRow.named Rows.fnExactIsLoadSpec.vars = true := by kernel_rfl
theorem k5 : (Rows.fnExactIsLoadRow.stops == []) = true := by kernel_rfl
theorem k7 : (Rows.fnExactIsLoadRow.knobs == []) = true := by kernel_rfl
theorem k9 : (Rows.fnExactIsLoadRow.inPlace == Tryd.prog.inPlace 6) = true := by kernel_rfl
theorem k10 : (Rows.fnExactIsLoadRow.unfollowed == Tryd.prog.unfollowed 6) = true := by kernel_rfl
theorem k11 : (Rows.fnExactIsLoadRow.recurses == Tryd.prog.recurses 6) = true := by kernel_rfl
theorem k12 : (Rows.fnExactIsLoadRow.named == Tryd.prog.varsNamed 6) = true := by kernel_rfl
theorem k13 : (Rows.fnExactIsLoadRow.maps == (Tryd.f6.params.toList ++ Rows.fnExactIsLoadSpec.plain.varTypes Tryd.prog).any (Tryd.prog.mapsRec ·)) = true := by kernel_rfl
theorem k14 : (Rows.fnExactIsLoadRow.ifaces == (Tryd.f6.params.toList ++ Rows.fnExactIsLoadSpec.plain.varTypes Tryd.prog).any (Tryd.prog.ifacesRec ·)) = true := by kernel_rfl
theorem k15 : (Rows.fnExactIsLoadRow.mapsOut == Tryd.prog.mapsAmong Tryd.f6.resultTypes.toList) = true := by kernel_rfl
theorem k16 : (Rows.fnExactIsLoadRow.loops == (Tryd.f6.params.toList ++ Rows.fnExactIsLoadSpec.plain.varTypes Tryd.prog).any (Tryd.prog.loopsFrom ·)) = true := by kernel_rfl
theorem k17 : (Rows.fnExactIsLoadRow.wideKeys == (Tryd.f6.params.toList ++ Rows.fnExactIsLoadSpec.plain.varTypes Tryd.prog ++ Tryd.f6.resultTypes.toList).any (Tryd.prog.wideKeysFrom ·)) = true := by kernel_rfl
theorem k18 : Rows.fnExactIsLoadSpec.vars.all (Tryd.prog.varReadable ·) = true := by kernel_rfl
theorem k19 : Tryd.f6.resultTypes.all (fun t => Tryd.prog.readableRec t && decide (t < Tryd.prog.types.size)) = true := by kernel_rfl
theorem k20 : (Rows.fnExactIsLoadRow.ifacesOut == Tryd.f6.resultTypes.toList.any (Tryd.prog.ifacesRec ·)) = true := by kernel_rfl
theorem k21 : (Rows.fnExactIsLoadRow.loopsOut == Tryd.f6.resultTypes.toList.any (Tryd.prog.loopsFrom ·)) = true := by kernel_rfl
theorem k23 : Rows.fnExactIsLoadRow.shortTexts.isNone = true := by kernel_rfl
theorem k28 : facts.kindsOf Tryd.prog Tryd.f6 Rows.fnExactIsLoadRow = true := by kernel_rfl
theorem k29 : (Rows.fnExactIsLoadRow.pinned == Rows.fnExactIsLoadRow.pinnedBy) = true := by kernel_rfl
theorem k30 : (Rows.fnExactIsLoadRow.veiled == (Tryd.f6.params.toList ++ Rows.fnExactIsLoadSpec.plain.varTypes Tryd.prog ++ Tryd.f6.resultTypes.toList).any (Tryd.prog.veiledRec ·)) = true := by kernel_rfl
theorem k31 : Rows.fnExactIsLoadRow.veiledFits Tryd.prog Tryd.f6.params.toList (Tryd.f6.params.toList ++ Rows.fnExactIsLoadSpec.plain.varTypes Tryd.prog ++ Tryd.f6.resultTypes.toList) = true := by kernel_rfl
theorem named : Tryd.pinned.checked.prog.funcNamed Rows.fnExactIsLoadRow.func = some 6 := by kernel_rfl
theorem inst : decide (Tryd.f6.isInstance Tryd.prog Rows.fnExactIsLoadRow.origin Rows.fnExactIsLoadRow.targs) = true := by kernel_rfl
theorem stand : (Tryd.f6.params.toList.all fun u => !Tryd.prog.wantsStandIn u) = true := by kernel_rfl
theorem wft : Rows.fnExactIsLoadRow.wfByText (OpenSpec.ofChange Rows.fnExactIsLoadSpec) = true := by kernel_rfl
theorem goes : false = Rows.fnExactIsLoadRow.goesBy Tryd.pinned.checked.prog := by kernel_rfl
end Go.Proofs.YtechjcplaaagfaaDoor.lawIsLoad
