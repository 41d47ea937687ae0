/-
  THE LAW FnExactWornOut: the facts of its row, each one by itself.
-/
import Derived.Test.YtdcckdfemelbiaaDoorCards
import Derived.Test.YtdcckdfemelbiaaDoorTie
import Derived.Test.YtdcckdfemelbiaaDoorJoined
import Derived.ProofKit
namespace Go.Proofs.YtdcckdfemelbiaaDoor.lawWornOut
open Go
theorem k0 : Rows.fnExactWornOutRow.wf (OpenSpec.ofChange Rows.fnExactWornOutSpec) = true := by kernel_rfl
theorem k3 : Tryd.f12.params.all (Tryd.prog.readableRec ·) = true := by kernel_rfl
theorem k4 : namedTie Tryd.prog Rows.fnExactWornOutRow.named Rows.fnExactWornOutSpec.vars = true := by kernel_rfl
theorem k5 : (Rows.fnExactWornOutRow.stops == []) = true := by kernel_rfl
theorem k7 : (Rows.fnExactWornOutRow.knobs == []) = true := by kernel_rfl
theorem k9 : (Rows.fnExactWornOutRow.inPlace == Tryd.prog.inPlace 12) = true := by kernel_rfl
theorem k10 : (Rows.fnExactWornOutRow.unfollowed == Tryd.prog.unfollowed 12) = true := by kernel_rfl
theorem k11 : (Rows.fnExactWornOutRow.recurses == Tryd.prog.recurses 12) = true := by kernel_rfl
theorem k12 : (Rows.fnExactWornOutRow.named == Tryd.prog.varsNamed 12) = true := by kernel_rfl
theorem k13 : (Rows.fnExactWornOutRow.maps == (Tryd.f12.params.toList ++ Rows.fnExactWornOutSpec.plain.varTypes Tryd.prog).any (Tryd.prog.mapsRec ·)) = true := by kernel_rfl
theorem k14 : (Rows.fnExactWornOutRow.ifaces == (Tryd.f12.params.toList ++ Rows.fnExactWornOutSpec.plain.varTypes Tryd.prog).any (Tryd.prog.ifacesRec ·)) = true := by kernel_rfl
theorem k15 : (Rows.fnExactWornOutRow.mapsOut == Tryd.prog.mapsAmong Tryd.f12.resultTypes.toList) = true := by kernel_rfl
theorem k16 : (Rows.fnExactWornOutRow.loops == (Tryd.f12.params.toList ++ Rows.fnExactWornOutSpec.plain.varTypes Tryd.prog).any (Tryd.prog.loopsFrom ·)) = true := by kernel_rfl
theorem k17 : (Rows.fnExactWornOutRow.wideKeys == (Tryd.f12.params.toList ++ Rows.fnExactWornOutSpec.plain.varTypes Tryd.prog ++ Tryd.f12.resultTypes.toList).any (Tryd.prog.wideKeysFrom ·)) = true := by kernel_rfl
theorem k18 : Rows.fnExactWornOutSpec.vars.all (Tryd.prog.varReadable ·) = true := by kernel_rfl
theorem k19 : Tryd.f12.resultTypes.all (fun t => Tryd.prog.readableRec t && decide (t < Tryd.prog.types.size)) = true := by kernel_rfl
theorem k20 : (Rows.fnExactWornOutRow.ifacesOut == Tryd.f12.resultTypes.toList.any (Tryd.prog.ifacesRec ·)) = true := by kernel_rfl
theorem k21 : (Rows.fnExactWornOutRow.loopsOut == Tryd.f12.resultTypes.toList.any (Tryd.prog.loopsFrom ·)) = true := by kernel_rfl
theorem k23 : Rows.fnExactWornOutRow.shortTexts.isNone = true := by kernel_rfl
theorem k28 : facts.kindsOf Tryd.prog Tryd.f12 Rows.fnExactWornOutRow = true := by kernel_rfl
theorem k29 : (Rows.fnExactWornOutRow.pinned == Rows.fnExactWornOutRow.pinnedBy) = true := by kernel_rfl
theorem k30 : (Rows.fnExactWornOutRow.veiled == (Tryd.f12.params.toList ++ Rows.fnExactWornOutSpec.plain.varTypes Tryd.prog ++ Tryd.f12.resultTypes.toList).any (Tryd.prog.veiledRec ·)) = true := by kernel_rfl
theorem k31 : Rows.fnExactWornOutRow.veiledFits Tryd.prog Tryd.f12.params.toList (Tryd.f12.params.toList ++ Rows.fnExactWornOutSpec.plain.varTypes Tryd.prog ++ Tryd.f12.resultTypes.toList) = true := by kernel_rfl
theorem named : Tryd.pinned.checked.prog.funcNamed Rows.fnExactWornOutRow.func = some 12 := by kernel_rfl
theorem inst : decide (Tryd.f12.isInstance Tryd.prog Rows.fnExactWornOutRow.origin Rows.fnExactWornOutRow.targs) = true := by kernel_rfl
theorem stand : (Tryd.f12.params.toList.all fun u => !Tryd.prog.wantsStandIn u) = true := by kernel_rfl
theorem wft : Rows.fnExactWornOutRow.wfByText (OpenSpec.ofChange Rows.fnExactWornOutSpec) = true := by kernel_rfl
theorem goes : false = Rows.fnExactWornOutRow.goesBy Tryd.pinned.checked.prog := by kernel_rfl
end Go.Proofs.YtdcckdfemelbiaaDoor.lawWornOut
