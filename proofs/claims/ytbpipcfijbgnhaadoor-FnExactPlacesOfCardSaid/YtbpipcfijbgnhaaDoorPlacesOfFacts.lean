/-
  THE LAW FnExactPlacesOf: the facts of its row, each one by itself.
-/
import Derived.Test.YtbpipcfijbgnhaaDoorCards
import Derived.Test.YtbpipcfijbgnhaaDoorTie
import Derived.Test.YtbpipcfijbgnhaaDoorJoined
import Derived.ProofKit
namespace Go.Proofs.YtbpipcfijbgnhaaDoor.lawPlacesOf
open Go
theorem k0 : Rows.fnExactPlacesOfRow.wf (OpenSpec.ofChange Rows.fnExactPlacesOfSpec) = true := by kernel_rfl
theorem k3 : Tryd.f6.params.all (Tryd.prog.readableRec ·) = true := by kernel_rfl
theorem k4 : namedTie Tryd.prog Rows.fnExactPlacesOfRow.named Rows.fnExactPlacesOfSpec.vars = true := by kernel_rfl
theorem k5 : (Rows.fnExactPlacesOfRow.stops == []) = true := by kernel_rfl
theorem k7 : (Rows.fnExactPlacesOfRow.knobs == []) = true := by kernel_rfl
theorem k9 : (Rows.fnExactPlacesOfRow.inPlace == Tryd.prog.inPlace 6) = true := by kernel_rfl
theorem k10 : (Rows.fnExactPlacesOfRow.unfollowed == Tryd.prog.unfollowed 6) = true := by kernel_rfl
theorem k11 : (Rows.fnExactPlacesOfRow.recurses == Tryd.prog.recurses 6) = true := by kernel_rfl
theorem k12 : (Rows.fnExactPlacesOfRow.named == Tryd.prog.varsNamed 6) = true := by kernel_rfl
theorem k13 : (Rows.fnExactPlacesOfRow.maps == (Tryd.f6.params.toList ++ Rows.fnExactPlacesOfSpec.plain.varTypes Tryd.prog).any (Tryd.prog.mapsRec ·)) = true := by kernel_rfl
theorem k14 : (Rows.fnExactPlacesOfRow.ifaces == (Tryd.f6.params.toList ++ Rows.fnExactPlacesOfSpec.plain.varTypes Tryd.prog).any (Tryd.prog.ifacesRec ·)) = true := by kernel_rfl
theorem k15 : (Rows.fnExactPlacesOfRow.mapsOut == Tryd.prog.mapsAmong Tryd.f6.resultTypes.toList) = true := by kernel_rfl
theorem k16 : (Rows.fnExactPlacesOfRow.loops == (Tryd.f6.params.toList ++ Rows.fnExactPlacesOfSpec.plain.varTypes Tryd.prog).any (Tryd.prog.loopsFrom ·)) = true := by kernel_rfl
theorem k17 : (Rows.fnExactPlacesOfRow.wideKeys == (Tryd.f6.params.toList ++ Rows.fnExactPlacesOfSpec.plain.varTypes Tryd.prog ++ Tryd.f6.resultTypes.toList).any (Tryd.prog.wideKeysFrom ·)) = true := by kernel_rfl
theorem k18 : Rows.fnExactPlacesOfSpec.vars.all (Tryd.prog.varReadable ·) = true := by kernel_rfl
theorem k19 : Tryd.f6.resultTypes.all (fun t => Tryd.prog.readableRec t && decide (t < Tryd.prog.types.size)) = true := by kernel_rfl
theorem k20 : (Rows.fnExactPlacesOfRow.ifacesOut == Tryd.f6.resultTypes.toList.any (Tryd.prog.ifacesRec ·)) = true := by kernel_rfl
theorem k21 : (Rows.fnExactPlacesOfRow.loopsOut == Tryd.f6.resultTypes.toList.any (Tryd.prog.loopsFrom ·)) = true := by kernel_rfl
theorem k23 : Rows.fnExactPlacesOfRow.shortTexts.isNone = true := by kernel_rfl
theorem k28 : facts.kindsOf Tryd.prog Tryd.f6 Rows.fnExactPlacesOfRow = true := by kernel_rfl
theorem k29 : (Rows.fnExactPlacesOfRow.pinned == Rows.fnExactPlacesOfRow.pinnedBy) = true := by kernel_rfl
theorem k30 : (Rows.fnExactPlacesOfRow.veiled == (Tryd.f6.params.toList ++ Rows.fnExactPlacesOfSpec.plain.varTypes Tryd.prog ++ Tryd.f6.resultTypes.toList).any (Tryd.prog.veiledRec ·)) = true := by kernel_rfl
theorem k31 : Rows.fnExactPlacesOfRow.veiledFits Tryd.prog Tryd.f6.params.toList (Tryd.f6.params.toList ++ Rows.fnExactPlacesOfSpec.plain.varTypes Tryd.prog ++ Tryd.f6.resultTypes.toList) = true := by kernel_rfl
theorem named : Tryd.pinned.checked.prog.funcNamed Rows.fnExactPlacesOfRow.func = some 6 := by kernel_rfl
theorem inst : decide (Tryd.f6.isInstance Tryd.prog Rows.fnExactPlacesOfRow.origin Rows.fnExactPlacesOfRow.targs) = true := by kernel_rfl
theorem stand : (Tryd.f6.params.toList.all fun u => !Tryd.prog.wantsStandIn u) = true := by kernel_rfl
theorem wft : Rows.fnExactPlacesOfRow.wfByText (OpenSpec.ofChange Rows.fnExactPlacesOfSpec) = true := by kernel_rfl
theorem goes : false = Rows.fnExactPlacesOfRow.goesBy Tryd.pinned.checked.prog := by kernel_rfl
end Go.Proofs.YtbpipcfijbgnhaaDoor.lawPlacesOf
