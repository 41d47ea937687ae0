/-
  THE LAW FnExactApartBy: the facts of its row, each one by itself.
-/
import Derived.Test.YtlembainfhnnbaaDoorCards
import Derived.Test.YtlembainfhnnbaaDoorTie
import Derived.Test.YtlembainfhnnbaaDoorJoined
import Derived.ProofKit
namespace Go.Proofs.YtlembainfhnnbaaDoor.lawApartBy
open Go
theorem k0 : Rows.fnExactApartByRow.wf (OpenSpec.ofChange Rows.fnExactApartBySpec) = true := by kernel_rfl
theorem k3 : Tryd.f11.params.all (Tryd.prog.readableRec ·) = true := by kernel_rfl
theorem k4 : namedTie Tryd.prog Rows.fnExactApartByRow.named Rows.fnExactApartBySpec.vars = true := by kernel_rfl
theorem k5 : (Rows.fnExactApartByRow.stops == []) = true := by kernel_rfl
theorem k7 : (Rows.fnExactApartByRow.knobs == []) = true := by kernel_rfl
theorem k9 : (Rows.fnExactApartByRow.inPlace == Tryd.prog.inPlace 11) = true := by kernel_rfl
theorem k10 : (Rows.fnExactApartByRow.unfollowed == Tryd.prog.unfollowed 11) = true := by kernel_rfl
theorem k11 : (Rows.fnExactApartByRow.recurses == Tryd.prog.recurses 11) = true := by kernel_rfl
theorem k12 : (Rows.fnExactApartByRow.named == Tryd.prog.varsNamed 11) = true := by kernel_rfl
theorem k13 : (Rows.fnExactApartByRow.maps == (Tryd.f11.params.toList ++ Rows.fnExactApartBySpec.plain.varTypes Tryd.prog).any (Tryd.prog.mapsRec ·)) = true := by kernel_rfl
theorem k14 : (Rows.fnExactApartByRow.ifaces == (Tryd.f11.params.toList ++ Rows.fnExactApartBySpec.plain.varTypes Tryd.prog).any (Tryd.prog.ifacesRec ·)) = true := by kernel_rfl
theorem k15 : (Rows.fnExactApartByRow.mapsOut == Tryd.prog.mapsAmong Tryd.f11.resultTypes.toList) = true := by kernel_rfl
theorem k16 : (Rows.fnExactApartByRow.loops == (Tryd.f11.params.toList ++ Rows.fnExactApartBySpec.plain.varTypes Tryd.prog).any (Tryd.prog.loopsFrom ·)) = true := by kernel_rfl
theorem k17 : (Rows.fnExactApartByRow.wideKeys == (Tryd.f11.params.toList ++ Rows.fnExactApartBySpec.plain.varTypes Tryd.prog ++ Tryd.f11.resultTypes.toList).any (Tryd.prog.wideKeysFrom ·)) = true := by kernel_rfl
theorem k18 : Rows.fnExactApartBySpec.vars.all (Tryd.prog.varReadable ·) = true := by kernel_rfl
theorem k19 : Tryd.f11.resultTypes.all (fun t => Tryd.prog.readableRec t && decide (t < Tryd.prog.types.size)) = true := by kernel_rfl
theorem k20 : (Rows.fnExactApartByRow.ifacesOut == Tryd.f11.resultTypes.toList.any (Tryd.prog.ifacesRec ·)) = true := by kernel_rfl
theorem k21 : (Rows.fnExactApartByRow.loopsOut == Tryd.f11.resultTypes.toList.any (Tryd.prog.loopsFrom ·)) = true := by kernel_rfl
theorem k23 : Rows.fnExactApartByRow.shortTexts.isNone = true := by kernel_rfl
theorem k28 : facts.kindsOf Tryd.prog Tryd.f11 Rows.fnExactApartByRow = true := by kernel_rfl
theorem k29 : (Rows.fnExactApartByRow.pinned == Rows.fnExactApartByRow.pinnedBy) = true := by kernel_rfl
theorem k30 : (Rows.fnExactApartByRow.veiled == (Tryd.f11.params.toList ++ Rows.fnExactApartBySpec.plain.varTypes Tryd.prog ++ Tryd.f11.resultTypes.toList).any (Tryd.prog.veiledRec ·)) = true := by kernel_rfl
theorem k31 : Rows.fnExactApartByRow.veiledFits Tryd.prog Tryd.f11.params.toList (Tryd.f11.params.toList ++ Rows.fnExactApartBySpec.plain.varTypes Tryd.prog ++ Tryd.f11.resultTypes.toList) = true := by kernel_rfl
theorem named : Tryd.pinned.checked.prog.funcNamed Rows.fnExactApartByRow.func = some 11 := by kernel_rfl
theorem inst : decide (Tryd.f11.isInstance Tryd.prog Rows.fnExactApartByRow.origin Rows.fnExactApartByRow.targs) = true := by kernel_rfl
theorem stand : (Tryd.f11.params.toList.all fun u => !Tryd.prog.wantsStandIn u) = true := by kernel_rfl
theorem wft : Rows.fnExactApartByRow.wfByText (OpenSpec.ofChange Rows.fnExactApartBySpec) = true := by kernel_rfl
theorem goes : false = Rows.fnExactApartByRow.goesBy Tryd.pinned.checked.prog := by kernel_rfl
end Go.Proofs.YtlembainfhnnbaaDoor.lawApartBy
