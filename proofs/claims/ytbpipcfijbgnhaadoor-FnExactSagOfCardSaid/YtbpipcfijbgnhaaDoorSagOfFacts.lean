/-
  THE LAW FnExactSagOf: the facts of its row, each one by itself.
-/
import Derived.Test.YtbpipcfijbgnhaaDoorCards
import Derived.Test.YtbpipcfijbgnhaaDoorTie
import Derived.Test.YtbpipcfijbgnhaaDoorJoined
import Derived.ProofKit
namespace Go.Proofs.YtbpipcfijbgnhaaDoor.lawSagOf
open Go
theorem k0 : Rows.fnExactSagOfRow.wf (OpenSpec.ofChange Rows.fnExactSagOfSpec) = true := by kernel_rfl
theorem k3 : Tryd.f9.params.all (Tryd.prog.readableRec ·) = true := by kernel_rfl
theorem k4 : namedTie Tryd.prog Rows.fnExactSagOfRow.named Rows.fnExactSagOfSpec.vars = true := by kernel_rfl
theorem k5 : (Rows.fnExactSagOfRow.stops == []) = true := by kernel_rfl
theorem k7 : (Rows.fnExactSagOfRow.knobs == []) = true := by kernel_rfl
theorem k9 : (Rows.fnExactSagOfRow.inPlace == Tryd.prog.inPlace 9) = true := by kernel_rfl
theorem k10 : (Rows.fnExactSagOfRow.unfollowed == Tryd.prog.unfollowed 9) = true := by kernel_rfl
theorem k11 : (Rows.fnExactSagOfRow.recurses == Tryd.prog.recurses 9) = true := by kernel_rfl
theorem k12 : (Rows.fnExactSagOfRow.named == Tryd.prog.varsNamed 9) = true := by kernel_rfl
theorem k13 : (Rows.fnExactSagOfRow.maps == (Tryd.f9.params.toList ++ Rows.fnExactSagOfSpec.plain.varTypes Tryd.prog).any (Tryd.prog.mapsRec ·)) = true := by kernel_rfl
theorem k14 : (Rows.fnExactSagOfRow.ifaces == (Tryd.f9.params.toList ++ Rows.fnExactSagOfSpec.plain.varTypes Tryd.prog).any (Tryd.prog.ifacesRec ·)) = true := by kernel_rfl
theorem k15 : (Rows.fnExactSagOfRow.mapsOut == Tryd.prog.mapsAmong Tryd.f9.resultTypes.toList) = true := by kernel_rfl
theorem k16 : (Rows.fnExactSagOfRow.loops == (Tryd.f9.params.toList ++ Rows.fnExactSagOfSpec.plain.varTypes Tryd.prog).any (Tryd.prog.loopsFrom ·)) = true := by kernel_rfl
theorem k17 : (Rows.fnExactSagOfRow.wideKeys == (Tryd.f9.params.toList ++ Rows.fnExactSagOfSpec.plain.varTypes Tryd.prog ++ Tryd.f9.resultTypes.toList).any (Tryd.prog.wideKeysFrom ·)) = true := by kernel_rfl
theorem k18 : Rows.fnExactSagOfSpec.vars.all (Tryd.prog.varReadable ·) = true := by kernel_rfl
theorem k19 : Tryd.f9.resultTypes.all (fun t => Tryd.prog.readableRec t && decide (t < Tryd.prog.types.size)) = true := by kernel_rfl
theorem k20 : (Rows.fnExactSagOfRow.ifacesOut == Tryd.f9.resultTypes.toList.any (Tryd.prog.ifacesRec ·)) = true := by kernel_rfl
theorem k21 : (Rows.fnExactSagOfRow.loopsOut == Tryd.f9.resultTypes.toList.any (Tryd.prog.loopsFrom ·)) = true := by kernel_rfl
theorem k23 : Rows.fnExactSagOfRow.shortTexts.isNone = true := by kernel_rfl
theorem k28 : facts.kindsOf Tryd.prog Tryd.f9 Rows.fnExactSagOfRow = true := by kernel_rfl
theorem k29 : (Rows.fnExactSagOfRow.pinned == Rows.fnExactSagOfRow.pinnedBy) = true := by kernel_rfl
theorem k30 : (Rows.fnExactSagOfRow.veiled == (Tryd.f9.params.toList ++ Rows.fnExactSagOfSpec.plain.varTypes Tryd.prog ++ Tryd.f9.resultTypes.toList).any (Tryd.prog.veiledRec ·)) = true := by kernel_rfl
theorem k31 : Rows.fnExactSagOfRow.veiledFits Tryd.prog Tryd.f9.params.toList (Tryd.f9.params.toList ++ Rows.fnExactSagOfSpec.plain.varTypes Tryd.prog ++ Tryd.f9.resultTypes.toList) = true := by kernel_rfl
theorem named : Tryd.pinned.checked.prog.funcNamed Rows.fnExactSagOfRow.func = some 9 := by kernel_rfl
theorem inst : decide (Tryd.f9.isInstance Tryd.prog Rows.fnExactSagOfRow.origin Rows.fnExactSagOfRow.targs) = true := by kernel_rfl
theorem stand : (Tryd.f9.params.toList.all fun u => !Tryd.prog.wantsStandIn u) = true := by kernel_rfl
theorem wft : Rows.fnExactSagOfRow.wfByText (OpenSpec.ofChange Rows.fnExactSagOfSpec) = true := by kernel_rfl
theorem goes : false = Rows.fnExactSagOfRow.goesBy Tryd.pinned.checked.prog := by kernel_rfl
end Go.Proofs.YtbpipcfijbgnhaaDoor.lawSagOf
