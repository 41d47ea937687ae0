/-
  THE LAW FnExactReadGarments: the facts of its row, each one by itself.
-/
import Derived.Test.YtjfimmfnhlimkaaDoorCards
import Derived.Test.YtjfimmfnhlimkaaDoorTie
import Derived.Test.YtjfimmfnhlimkaaDoorJoined
import Derived.ProofKit
namespace Go.Proofs.YtjfimmfnhlimkaaDoor.lawReadGarments
open Go
theorem k0 : Rows.fnExactReadGarmentsRow.wf (OpenSpec.ofChange Rows.fnExactReadGarmentsSpec) = true := by kernel_rfl
theorem k3 : Tryd.f8.params.all (Tryd.prog.readableRec ·) = true := by kernel_rfl
theorem k4 : namedTie Tryd.prog Rows.fnExactReadGarmentsRow.named Rows.fnExactReadGarmentsSpec.vars = true := by kernel_rfl
theorem k5 : (Rows.fnExactReadGarmentsRow.stops == []) = true := by kernel_rfl
theorem k7 : (Rows.fnExactReadGarmentsRow.knobs == []) = true := by kernel_rfl
theorem k9 : (Rows.fnExactReadGarmentsRow.inPlace == Tryd.prog.inPlace 8) = true := by kernel_rfl
theorem k10 : (Rows.fnExactReadGarmentsRow.unfollowed == Tryd.prog.unfollowed 8) = true := by kernel_rfl
theorem k11 : (Rows.fnExactReadGarmentsRow.recurses == Tryd.prog.recurses 8) = true := by kernel_rfl
theorem k12 : (Rows.fnExactReadGarmentsRow.named == Tryd.prog.varsNamed 8) = true := by kernel_rfl
theorem k13 : (Rows.fnExactReadGarmentsRow.maps == (Tryd.f8.params.toList ++ Rows.fnExactReadGarmentsSpec.plain.varTypes Tryd.prog).any (Tryd.prog.mapsRec ·)) = true := by kernel_rfl
theorem k14 : (Rows.fnExactReadGarmentsRow.ifaces == (Tryd.f8.params.toList ++ Rows.fnExactReadGarmentsSpec.plain.varTypes Tryd.prog).any (Tryd.prog.ifacesRec ·)) = true := by kernel_rfl
theorem k15 : (Rows.fnExactReadGarmentsRow.mapsOut == Tryd.prog.mapsAmong Tryd.f8.resultTypes.toList) = true := by kernel_rfl
theorem k16 : (Rows.fnExactReadGarmentsRow.loops == (Tryd.f8.params.toList ++ Rows.fnExactReadGarmentsSpec.plain.varTypes Tryd.prog).any (Tryd.prog.loopsFrom ·)) = true := by kernel_rfl
theorem k17 : (Rows.fnExactReadGarmentsRow.wideKeys == (Tryd.f8.params.toList ++ Rows.fnExactReadGarmentsSpec.plain.varTypes Tryd.prog ++ Tryd.f8.resultTypes.toList).any (Tryd.prog.wideKeysFrom ·)) = true := by kernel_rfl
theorem k18 : Rows.fnExactReadGarmentsSpec.vars.all (Tryd.prog.varReadable ·) = true := by kernel_rfl
theorem k19 : Tryd.f8.resultTypes.all (fun t => Tryd.prog.readableRec t && decide (t < Tryd.prog.types.size)) = true := by kernel_rfl
theorem k20 : (Rows.fnExactReadGarmentsRow.ifacesOut == Tryd.f8.resultTypes.toList.any (Tryd.prog.ifacesRec ·)) = true := by kernel_rfl
theorem k21 : (Rows.fnExactReadGarmentsRow.loopsOut == Tryd.f8.resultTypes.toList.any (Tryd.prog.loopsFrom ·)) = true := by kernel_rfl
theorem k23 : Rows.fnExactReadGarmentsRow.shortTexts.isNone = true := by kernel_rfl
theorem k28 : facts.kindsOf Tryd.prog Tryd.f8 Rows.fnExactReadGarmentsRow = true := by kernel_rfl
theorem k29 : (Rows.fnExactReadGarmentsRow.pinned == Rows.fnExactReadGarmentsRow.pinnedBy) = true := by kernel_rfl
theorem k30 : (Rows.fnExactReadGarmentsRow.veiled == (Tryd.f8.params.toList ++ Rows.fnExactReadGarmentsSpec.plain.varTypes Tryd.prog ++ Tryd.f8.resultTypes.toList).any (Tryd.prog.veiledRec ·)) = true := by kernel_rfl
theorem k31 : Rows.fnExactReadGarmentsRow.veiledFits Tryd.prog Tryd.f8.params.toList (Tryd.f8.params.toList ++ Rows.fnExactReadGarmentsSpec.plain.varTypes Tryd.prog ++ Tryd.f8.resultTypes.toList) = true := by kernel_rfl
theorem named : Tryd.pinned.checked.prog.funcNamed Rows.fnExactReadGarmentsRow.func = some 8 := by kernel_rfl
theorem inst : decide (Tryd.f8.isInstance Tryd.prog Rows.fnExactReadGarmentsRow.origin Rows.fnExactReadGarmentsRow.targs) = true := by kernel_rfl
theorem stand : (Tryd.f8.params.toList.all fun u => !Tryd.prog.wantsStandIn u) = true := by kernel_rfl
theorem wft : Rows.fnExactReadGarmentsRow.wfByText (OpenSpec.ofChange Rows.fnExactReadGarmentsSpec) = true := by kernel_rfl
theorem goes : false = Rows.fnExactReadGarmentsRow.goesBy Tryd.pinned.checked.prog := by kernel_rfl
end Go.Proofs.YtjfimmfnhlimkaaDoor.lawReadGarments
