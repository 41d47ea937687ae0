/-
  THE LAW FnExactDayAll: the facts of its row, each one by itself.
-/
import Derived.Test.YtdcckdfemelbiaaDoorCards
import Derived.Test.YtdcckdfemelbiaaDoorTie
import Derived.Test.YtdcckdfemelbiaaDoorJoined
import Derived.ProofKit
namespace Go.Proofs.YtdcckdfemelbiaaDoor.lawDayAll
open Go
theorem k0 : Rows.fnExactDayAllRow.wf (OpenSpec.ofChange Rows.fnExactDayAllSpec) = true := by kernel_rfl
theorem k3 : Tryd.f11.params.all (Tryd.prog.readableRec ·) = true := by kernel_rfl
theorem k4 : namedTie Tryd.prog Rows.fnExactDayAllRow.named Rows.fnExactDayAllSpec.vars = true := by kernel_rfl
theorem k5 : (Rows.fnExactDayAllRow.stops == []) = true := by kernel_rfl
theorem k7 : (Rows.fnExactDayAllRow.knobs == []) = true := by kernel_rfl
theorem k9 : (Rows.fnExactDayAllRow.inPlace == Tryd.prog.inPlace 11) = true := by kernel_rfl
theorem k10 : (Rows.fnExactDayAllRow.unfollowed == Tryd.prog.unfollowed 11) = true := by kernel_rfl
theorem k11 : (Rows.fnExactDayAllRow.recurses == Tryd.prog.recurses 11) = true := by kernel_rfl
theorem k12 : (Rows.fnExactDayAllRow.named == Tryd.prog.varsNamed 11) = true := by kernel_rfl
theorem k13 : (Rows.fnExactDayAllRow.maps == (Tryd.f11.params.toList ++ Rows.fnExactDayAllSpec.plain.varTypes Tryd.prog).any (Tryd.prog.mapsRec ·)) = true := by kernel_rfl
theorem k14 : (Rows.fnExactDayAllRow.ifaces == (Tryd.f11.params.toList ++ Rows.fnExactDayAllSpec.plain.varTypes Tryd.prog).any (Tryd.prog.ifacesRec ·)) = true := by kernel_rfl
theorem k15 : (Rows.fnExactDayAllRow.mapsOut == Tryd.prog.mapsAmong Tryd.f11.resultTypes.toList) = true := by kernel_rfl
theorem k16 : (Rows.fnExactDayAllRow.loops == (Tryd.f11.params.toList ++ Rows.fnExactDayAllSpec.plain.varTypes Tryd.prog).any (Tryd.prog.loopsFrom ·)) = true := by kernel_rfl
theorem k17 : (Rows.fnExactDayAllRow.wideKeys == (Tryd.f11.params.toList ++ Rows.fnExactDayAllSpec.plain.varTypes Tryd.prog ++ Tryd.f11.resultTypes.toList).any (Tryd.prog.wideKeysFrom ·)) = true := by kernel_rfl
theorem k18 : Rows.fnExactDayAllSpec.vars.all (Tryd.prog.varReadable ·) = true := by kernel_rfl
theorem k19 : Tryd.f11.resultTypes.all (fun t => Tryd.prog.readableRec t && decide (t < Tryd.prog.types.size)) = true := by kernel_rfl
theorem k20 : (Rows.fnExactDayAllRow.ifacesOut == Tryd.f11.resultTypes.toList.any (Tryd.prog.ifacesRec ·)) = true := by kernel_rfl
theorem k21 : (Rows.fnExactDayAllRow.loopsOut == Tryd.f11.resultTypes.toList.any (Tryd.prog.loopsFrom ·)) = true := by kernel_rfl
theorem k23 : Rows.fnExactDayAllRow.shortTexts.isNone = true := by kernel_rfl
theorem k28 : facts.kindsOf Tryd.prog Tryd.f11 Rows.fnExactDayAllRow = true := by kernel_rfl
theorem k29 : (Rows.fnExactDayAllRow.pinned == Rows.fnExactDayAllRow.pinnedBy) = true := by kernel_rfl
theorem k30 : (Rows.fnExactDayAllRow.veiled == (Tryd.f11.params.toList ++ Rows.fnExactDayAllSpec.plain.varTypes Tryd.prog ++ Tryd.f11.resultTypes.toList).any (Tryd.prog.veiledRec ·)) = true := by kernel_rfl
theorem k31 : Rows.fnExactDayAllRow.veiledFits Tryd.prog Tryd.f11.params.toList (Tryd.f11.params.toList ++ Rows.fnExactDayAllSpec.plain.varTypes Tryd.prog ++ Tryd.f11.resultTypes.toList) = true := by kernel_rfl
theorem named : Tryd.pinned.checked.prog.funcNamed Rows.fnExactDayAllRow.func = some 11 := by kernel_rfl
theorem inst : decide (Tryd.f11.isInstance Tryd.prog Rows.fnExactDayAllRow.origin Rows.fnExactDayAllRow.targs) = true := by kernel_rfl
theorem stand : (Tryd.f11.params.toList.all fun u => !Tryd.prog.wantsStandIn u) = true := by kernel_rfl
theorem wft : Rows.fnExactDayAllRow.wfByText (OpenSpec.ofChange Rows.fnExactDayAllSpec) = true := by kernel_rfl
theorem goes : false = Rows.fnExactDayAllRow.goesBy Tryd.pinned.checked.prog := by kernel_rfl
end Go.Proofs.YtdcckdfemelbiaaDoor.lawDayAll
